import Derived.Test.YtafhpcgdlmkbeaxTI4
import Derived.Test.YtafhpcgdlmkbeaxTFind
namespace Go.Proofs.Ytafhpcgdlmkbeax
open Go.RowKit
set_option linter.unusedVariables false

set_option maxRecDepth 100000 in
set_option maxHeartbeats 400000 in
theorem implTableFixed (w : World) :
    Calls Try.prog 17 #[] w fun e w' => ∃ a c, e = .returned (.slice a 6 c) ∧ w'.ownsRow w.heap.size 30 3 (.slice a 6 c) 6 (cellsF fixedL) ∧ Below w.heap.size w w' := by
  go_enter Try.func17, Try.ntmps17
  go_wp2
  go_ret
  exact ⟨_, _, rfl, own_new w w.heap.size 30 3 6 (cellsF fixedL) (Nat.le_refl _) (by decide) rfl, (Below.refl _ _).alloc (Nat.le_refl _) _⟩

end Go.Proofs.Ytafhpcgdlmkbeax
