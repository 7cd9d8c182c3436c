import Derived.Test.YtloegojbenjfdauNumRA
import Derived.Test.YtloegojbenjfdauSpRA
namespace Go.Proofs.Ytloegojbenjfdau
open Go.RowKit
set_option linter.unusedVariables false

set_option maxHeartbeats 400000 in
theorem fnExactNumRead_walk (a0 : ByteArray) (a1 : Int) (w0 : a0.size ≤ maxLen) (w1 : (Lit.int .i64 a1).wf = true) (w : World) :
    Calls Try.prog 4 #[.string a0, .int .i64 a1] w fun e w' => e = .returned (.bool true) ∧ Below w.heap.size w w' := by
  clear w1
  have HM : Hid (a0.size ≤ maxLen) := w0
  unfold maxLen at w0
  by_cases c0 : (1048576 : Int) < a0.size
  · go_enter Try.func4, Try.ntmps4
    go_wp2
    go_ret
    exact ⟨rfl, Below.refl _ _⟩
  go_enter Try.func4, Try.ntmps4
  go_wp2_with fail
  refine (specRead_any _ _ _ HM.out).mono ?_
  rintro e wa ⟨rfl, rfl⟩
  obtain ⟨⟨x, u, ok⟩, hrd⟩ : ∃ r, rdV a0 a1 = r := ⟨_, rfl⟩
  rw [hrd]
  have HRD : Hid (rdV a0 a1 = (x, u, ok)) := hrd
  clear hrd
  unfold tupV
  go_wp2_with fail
  refine (numRead_any _ _ _ HM.out).mono ?_
  rintro e wb ⟨rfl, hb⟩
  rw [HRD.out]
  unfold tupV
  go_wp2
  go_ret
  exact ⟨rfl, hb⟩
end Go.Proofs.Ytloegojbenjfdau
