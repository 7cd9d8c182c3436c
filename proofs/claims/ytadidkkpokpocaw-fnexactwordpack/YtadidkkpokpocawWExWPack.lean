import Derived.Test.YtadidkkpokpocawWLaw0
import Derived.Test.YtadidkkpokpocawImpW
namespace Go.Proofs.Ytadidkkpokpocaw
open Go.RowKit
set_option linter.unusedVariables false

set_option maxRecDepth 100000 in
set_option maxHeartbeats 400000 in
theorem fnExactWordPack_walk (a0 : ByteArray) (w0 : a0.size ≤ maxLen) (w : World) :
    Calls Try.prog 5 #[.string a0] w fun e w' => e = .returned (.bool true) ∧ Below w.heap.size w w' := by
  have HM : Hid (a0.size ≤ maxLen) := w0
  unfold maxLen at w0
  by_cases c0 : (1048576 : Int) < a0.size
  · go_enter Try.func5, Try.ntmps5
    go_wp2
    go_ret
    exact ⟨rfl, Below.refl _ _⟩
  go_enter Try.func5, Try.ntmps5
  go_wp2_with fail
  refine (specPack _ _ HM.out).mono ?_
  rintro e wa ⟨rfl, hb⟩
  go_wp2_with fail
  refine (implPack _ _ HM.out).mono ?_
  rintro e wb ⟨rfl, hb2⟩
  go_wp2
  go_ret
  exact ⟨rfl, bt hb hb2⟩
end Go.Proofs.Ytadidkkpokpocaw
