import Derived.Test.YtghgcobnmmommaaDoorEnA3
import Derived.Test.YtghgcobnmmommaaDoorEdF2
namespace Go.Proofs.YtghgcobnmmommaaDoor
open Go.RowKit
set_option linter.unusedVariables false

set_option maxRecDepth 100000 in
set_option maxHeartbeats 20000000 in
theorem fnAnswer_walk (a0 : Option Addr) (len0 cap0 : Nat) (z0 : List Int) (w : World) (w0 : Row w a0 len0 cap0 z0) :
    Calls Tryd.prog 3 #[.slice a0 len0 cap0] w fun e w' => e = .returned (.bool true) ∧ Below w.heap.size w w' := by
  by_cases c0 : (1048576 : Int) < len0
  · clear w0
    go_enter Tryd.func3, Tryd.ntmps3
    go_wp2
    go_ret
    exact ⟨rfl, Below.refl _ _⟩
  have R0 : Hid (Row w a0 len0 cap0 z0) := w0
  clear w0
  go_enter Tryd.func3, Tryd.ntmps3
  go_wp2_with fail
  refine (drawEndAnswer _ _ _ _ _ R0.out).mono ?_
  rintro e w1 ⟨p, t, rfl, hp, ht, hB⟩
  clear R0
  have hS := fun W => specEndAnswer p t W (by unfold maxLen; omega)
  have hI := fun W => implAnsSmall p t W (by omega)
  have HS : Hid _ := hS
  have HI : Hid _ := hI
  clear hS hI
  have hyes : (sYes.toList == [48]) = true := by rw [bal sYes [48] rfl]; rfl
  have hno : (sNo.toList == [49, 50]) = true := by rw [bal sNo [49, 50] rfl]; rfl
  have hem : eB.toList.isEmpty = true := by rw [bal eB [] rfl]; rfl
  have hem2 : (eB.toList == []) = true := by rw [bal eB [] rfl]; rfl
  have hdb := decB_one' t.size (by omega)
  have hub := upB_size t
  unfold edAns at HS HI
  rw [pEcho_l, pUp_l, pLen_l] at HS HI
  by_cases h1 : (p.toList == [47, 101, 99, 104, 111]) = true
  · have h1s := h1
    rw [if_pos h1] at HS HI
    dsimp only at HS HI
    clear hdb hub
    go_wp2_with (first | (go_at_call 7; refine (HS.out _).mono ?_; rintro e w2 ⟨rfl, hb2⟩) | (go_at_call 8; refine (HI.out _).mono ?_; rintro e w3 ⟨rfl, hb3⟩))
    go_ret
    exact ⟨rfl, btF (btF hB hb2) hb3⟩
  rw [if_neg h1] at HS HI
  have h1' : (p.toList == [47, 101, 99, 104, 111]) = false := by simpa using h1
  by_cases h2 : (p.toList == [47, 117, 112]) = true
  · rw [if_pos h2] at HS HI
    dsimp only at HS HI
    obtain ⟨u, hu⟩ : ∃ u, upB t = u := ⟨_, rfl⟩
    rw [hu] at HS HI hub
    have hsz : ((u.size : Int) == (t.size : Int)) = true := by rw [hub]; simp
    clear hdb hu h1
    go_wp2_with (first | (go_at_call 7; refine (HS.out _).mono ?_; rintro e w2 ⟨rfl, hb2⟩) | (go_at_call 8; refine (HI.out _).mono ?_; rintro e w3 ⟨rfl, hb3⟩))
    go_ret
    exact ⟨rfl, btF (btF hB hb2) hb3⟩
  rw [if_neg h2] at HS HI
  have h2' : (p.toList == [47, 117, 112]) = false := by simpa using h2
  by_cases h3 : (p.toList == [47, 108, 101, 110]) = true
  · rw [if_pos h3] at HS HI
    dsimp only at HS HI
    obtain ⟨u, hu⟩ : ∃ u, decB t.size = u := ⟨_, rfl⟩
    rw [hu] at HS HI hdb
    clear hub hu h1 h2
    by_cases h10 : t.size < 10
    · rw [if_pos h10] at hdb
      have hi1 : ((u.size : Int) == 1) = true := by rw [hdb]; rfl
      have hi2 : decide ((t.size : Int) < 10) = true := by simp; omega
      go_wp2_with (first | (go_at_call 7; refine (HS.out _).mono ?_; rintro e w2 ⟨rfl, hb2⟩) | (go_at_call 8; refine (HI.out _).mono ?_; rintro e w3 ⟨rfl, hb3⟩))
      go_ret
      exact ⟨rfl, btF (btF hB hb2) hb3⟩
    · rw [if_neg h10] at hdb
      have hi1 : ((u.size : Int) == 1) = false := by rw [hdb]; rfl
      have hi2 : decide ((t.size : Int) < 10) = false := by rw [decide_eq_false_iff_not]; omega
      go_wp2_with (first | (go_at_call 7; refine (HS.out _).mono ?_; rintro e w2 ⟨rfl, hb2⟩) | (go_at_call 8; refine (HI.out _).mono ?_; rintro e w3 ⟨rfl, hb3⟩))
      go_ret
      exact ⟨rfl, btF (btF hB hb2) hb3⟩
  rw [if_neg h3] at HS HI
  have h3' : (p.toList == [47, 108, 101, 110]) = false := by simpa using h3
  dsimp only at HS HI
  clear hdb hub h1 h2 h3
  go_wp2_with (first | (go_at_call 7; refine (HS.out _).mono ?_; rintro e w2 ⟨rfl, hb2⟩) | (go_at_call 8; refine (HI.out _).mono ?_; rintro e w3 ⟨rfl, hb3⟩))
  go_ret
  exact ⟨rfl, btF (btF hB hb2) hb3⟩
end Go.Proofs.YtghgcobnmmommaaDoor
