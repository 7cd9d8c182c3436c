import Derived.Test.YtdnajdobmlgmiaaProg
import Derived.Test.YtdnajdobmlgmiaaBA
namespace Go.Proofs.Ytdnajdobmlgmiaa
open Go.RowKit
set_option linter.unusedVariables false
theorem info5 : (Try.prog.info? 5).map (fun i => (i.zero, i.size, i.bytes)) = some (some (.int .u8 0), 1, 1) := by kernel_rfl

end Go.Proofs.Ytdnajdobmlgmiaa
