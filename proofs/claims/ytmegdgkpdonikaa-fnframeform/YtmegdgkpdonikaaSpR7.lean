import Derived.Test.YtmegdgkpdonikaaBA
namespace Go.Proofs.Ytmegdgkpdonikaa
open Go.RowKit
set_option linter.unusedVariables false

end Go.Proofs.Ytmegdgkpdonikaa
