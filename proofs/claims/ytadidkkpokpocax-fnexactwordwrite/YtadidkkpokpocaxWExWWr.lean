import Derived.Test.YtadidkkpokpocaxWLaw0
import Derived.Test.YtadidkkpokpocaxImpW2
namespace Go.Proofs.Ytadidkkpokpocax
open Go.RowKit
set_option linter.unusedVariables false

set_option maxHeartbeats 400000 in
theorem fnExactWordWrite_walk (a0 : ByteArray) (w0 : a0.size ≤ maxLen) (w : World) :
    Calls Try.prog 3 #[.string a0] w fun e w' => e = .returned (.bool true) ∧ Below w.heap.size w w' := by
  have HM : Hid (a0.size ≤ maxLen) := w0
  unfold maxLen at w0
  by_cases c0 : (1048576 : Int) < a0.size
  · go_enter Try.func3, Try.ntmps3
    go_wp2
    go_ret
    exact ⟨rfl, Below.refl _ _⟩
  go_enter Try.func3, Try.ntmps3
  go_wp2_with fail
  refine (specWrite _ _ HM.out).mono ?_
  rintro e wa ⟨rfl, hb⟩
  go_wp2_with fail
  refine (implWrite _ _ HM.out).mono ?_
  rintro e wb ⟨rfl, hb2⟩
  go_wp2
  go_ret
  exact ⟨rfl, bt hb hb2⟩
end Go.Proofs.Ytadidkkpokpocax
