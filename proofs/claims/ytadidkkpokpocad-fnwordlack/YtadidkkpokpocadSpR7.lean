import Derived.Test.YtadidkkpokpocadL1
namespace Go.Proofs.Ytadidkkpokpocad
open Go.RowKit
set_option linter.unusedVariables false

end Go.Proofs.Ytadidkkpokpocad
