import Derived.Test.YtadidkkpokpocawL1
namespace Go.Proofs.Ytadidkkpokpocaw
open Go.RowKit
set_option linter.unusedVariables false

end Go.Proofs.Ytadidkkpokpocaw
