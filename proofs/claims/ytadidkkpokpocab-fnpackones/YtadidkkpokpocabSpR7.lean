import Derived.Test.YtadidkkpokpocabL1
namespace Go.Proofs.Ytadidkkpokpocab
open Go.RowKit
set_option linter.unusedVariables false

end Go.Proofs.Ytadidkkpokpocab
