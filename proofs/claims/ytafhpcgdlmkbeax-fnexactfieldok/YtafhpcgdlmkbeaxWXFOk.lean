import Derived.Test.YtafhpcgdlmkbeaxEO
namespace Go.Proofs.Ytafhpcgdlmkbeax
open Go.RowKit
set_option linter.unusedVariables false

set_option maxRecDepth 100000 in
set_option maxHeartbeats 2000000 in
theorem fnExactFieldOk_walk (f : Fd) (w : World) (h1 : f.n.size ≤ maxLen) (h2 : f.v.size ≤ maxLen) :
    Calls Try.prog 5 #[f.val] w fun e w' => e = .returned (.bool true) ∧ Below w.heap.size w w' := by
  have hb0 : Below w.heap.size w (w.alloc (.cells #[.string f.n, .string f.v, .bool f.q] 27)) := (Below.refl _ _).alloc (Nat.le_refl _) _
  have hB0 : Hid ((w.alloc (.cells #[.string f.n, .string f.v, .bool f.q] 27)).heap[w.heap.size]? = some (.cells #[.string f.n, .string f.v, .bool f.q] 27 (0, 0))) := heap_alloc_last w _
  have hsz := fun w => szField_any f 1048576 w h1 h2 (by decide) (by decide)
  unfold Fd.val at hsz ⊢
  by_cases hs : (1048576 : Int) < (f.n.size : Int) + f.v.size
  · rw [if_pos hs] at hsz
    go_enter Try.func5, Try.ntmps5
    go_wp2_with (go_at_call 12; refine (hsz _).mono ?_; clear hsz; rintro e w1 ⟨rfl, hb1⟩)
    go_ret
    exact ⟨rfl, bt' hb0 hb1⟩
  · rw [if_neg hs] at hsz
    have hd : decide ((1048576 : Int) - f.n.size - f.v.size < 0) = false := by rw [decide_eq_false_iff_not]; omega
    have hnn : (0 : Int) ≤ 1048576 - f.n.size - f.v.size := by omega
    have hto := fun w => toField_any f w
    have hsp := fun w => specFieldOk f w (by omega) (by omega)
    have him := fun w => implFieldOk f w (by omega) (by omega)
    obtain ⟨R, hR⟩ : ∃ R, fOk f = R := ⟨_, rfl⟩
    rw [hR] at hsp him
    unfold Fd.val at hto hsp him
    have hto2 := hto
    clear hR
    go_enter Try.func5, Try.ntmps5
    go_wp2_with (first | (go_at_call 12; refine (hsz _).mono ?_; clear hsz; rintro e w1 ⟨rfl, hb1⟩; have hB1 := blkB2 hb1 hB0.out; obtain ⟨p0, p1, p2⟩ := row3c hB1; have hBw1 := bt' hb0 hb1) | (go_at_call 14; refine (hto _).mono ?_; clear hto; rintro e w2 ⟨rfl, hb2⟩; have hB2 := blkB2 hb2 hB1; have hBw2 := bt' hBw1 hb2) | (go_at_call 13; refine (hsp _).mono ?_; clear hsp; rintro e w3 ⟨rfl, hb3⟩; have hB3 := blkB2 hb3 hB2; obtain ⟨q0, q1, q2⟩ := row3c hB3; have hBw3 := bt' hBw2 hb3) | (go_at_call 14; refine (hto2 _).mono ?_; clear hto2; rintro e w4 ⟨rfl, hb4⟩; have hBw4 := bt' hBw3 hb4) | (go_at_call 15; refine (him _).mono ?_; clear him; rintro e w5 ⟨rfl, hb5⟩))
    go_ret
    exact ⟨rfl, bt' hBw4 hb5⟩
end Go.Proofs.Ytafhpcgdlmkbeax
