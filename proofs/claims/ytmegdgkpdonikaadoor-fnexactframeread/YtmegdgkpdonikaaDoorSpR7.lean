import Derived.Test.YtmegdgkpdonikaaDoorBA
namespace Go.Proofs.YtmegdgkpdonikaaDoor
open Go.RowKit
set_option linter.unusedVariables false

end Go.Proofs.YtmegdgkpdonikaaDoor
