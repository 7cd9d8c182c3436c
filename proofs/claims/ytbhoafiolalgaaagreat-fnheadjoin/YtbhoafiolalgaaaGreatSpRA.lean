import Derived.Test.YtbhoafiolalgaaaGreatBN
import Derived.Test.YtbhoafiolalgaaaGreatBN2
import Derived.Test.YtbhoafiolalgaaaGreatSpR7
namespace Go.Proofs.YtbhoafiolalgaaaGreat
open Go.RowKit
set_option linter.unusedVariables false

theorem l1Read_any (s : ByteArray) (bits : Int) (w : World) (hm : s.size ≤ maxLen) (h1 : 3 ≤ bits) (h2 : bits ≤ 7) :
    Calls Tryz.prog 57 #[.string s, .int .i64 bits] w fun e w' => e = .returned (tupV (rdV s bits)) ∧ w' = w := by
  unfold rdV
  rw [if_pos ⟨h1, h2⟩]
  rcases bits_cases h1 h2 with rfl | rfl | rfl | rfl | rfl
  · exact sr3 s w hm
  · exact sr4 s w hm
  · exact sr5 s w hm
  · exact sr6 s w hm
  · exact sr7 s w hm

end Go.Proofs.YtbhoafiolalgaaaGreat
