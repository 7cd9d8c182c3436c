import Derived.Test.YtloegojbenjfdaaLaws0
namespace Go.Proofs.Ytloegojbenjfdaa
open Go.RowKit
set_option linter.unusedVariables false

set_option maxHeartbeats 1000000 in
theorem fnNumCut_walk (a0 : Option Addr) (len0 cap0 : Nat) (z0 : List Int) (w : World) (w0 : Row w a0 len0 cap0 z0) :
    Calls Try.prog 7 #[.slice a0 len0 cap0] w fun e w' => e = .returned (.bool true) ∧ Below w.heap.size w w' := by
  by_cases c0 : (1048576 : Int) < len0
  · clear w0
    go_enter Try.func7, Try.ntmps7
    go_wp2
    go_ret
    exact ⟨rfl, Below.refl _ _⟩
  have R0 : Hid (Row w a0 len0 cap0 z0) := w0
  clear w0
  go_enter Try.func7, Try.ntmps7
  go_wp2_with fail
  refine (drawNumWrite _ _ _ _ _ R0.out).mono ?_
  rintro e wa ⟨n, bits, head, rfl, n0, n1, b0, b1, h0, h1, hb⟩
  go_wp2_with fail
  by_cases hok : nOk n bits head
  · have HO : Hid (nOk n bits head) := hok
    have hne := numS_ne n bits head
    obtain ⟨k0, k1, k2, k3, k4, k5⟩ := hok
    refine (numWrite_ok _ _ _ _ HO.out).mono ?_
    rintro e wb ⟨rfl, hb2⟩
    go_wp2_with fail
    refine (specWrite_ok _ _ _ _ HO.out).mono ?_
    rintro e wc ⟨rfl, hb3⟩
    have hB : Below w.heap.size w wc := bt (bt hb hb2) hb3
    have e2 := numS_pos n bits head
    have e3 := numS_le n bits head
    have e5 : (1 : Int) ≤ ((numS n bits head).size : Nat) := by omega
    clear hb hb2 hb3 h0 h1 b0 b1 n0 n1
    go_wp2_with fail
    refine (numRead_any _ _ _ ?_).mono ?_
    · unfold maxLen; rw [ByteArray.size_extract]; omega
    rintro e wd ⟨rfl, hb4⟩
    rw [cut_none n bits head HO.out]
    unfold tupV
    go_wp2_with fail
    refine (numRead_any _ _ _ (by decide)).mono ?_
    rintro e we ⟨rfl, hb5⟩
    rw [none_none]
    unfold tupV
    go_wp2_with fail
    refine (numRead_any _ _ _ (by unfold maxLen; omega)).mono ?_
    rintro e wf ⟨rfl, hb6⟩
    rw [eight_none]
    unfold tupV
    go_wp2
    go_ret
    exact ⟨rfl, bt (bt (bt hB hb4) hb5) hb6⟩
  · have HO : Hid (¬ nOk n bits head) := hok
    clear hok
    refine (numWrite_bad _ _ _ _ HO.out).mono ?_
    rintro e wb ⟨rfl, rfl⟩
    go_wp2_with fail
    refine (specWrite_bad _ _ _ _ HO.out).mono ?_
    rintro e wc ⟨rfl, rfl⟩
    go_wp2_with fail
    refine (specWrite_bad _ _ _ _ HO.out).mono ?_
    rintro e wd ⟨rfl, rfl⟩
    go_wp2
    go_ret
    exact ⟨rfl, hb⟩
end Go.Proofs.Ytloegojbenjfdaa
