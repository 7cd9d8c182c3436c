import Derived.Test.YtpgcmjbmkjnjnaaBA
namespace Go.Proofs.Ytpgcmjbmkjnjnaa
open Go.RowKit
set_option linter.unusedVariables false

end Go.Proofs.Ytpgcmjbmkjnjnaa
