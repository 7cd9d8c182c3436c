import Derived.Test.YtloegojbenjfdaaMath
import Derived.Test.YtloegojbenjfdaaDraw
namespace Go.Proofs.Ytloegojbenjfdaa
open Go.RowKit
set_option linter.unusedVariables false

set_option maxHeartbeats 1000000 in
theorem fnNumBack_walk (a0 : Option Addr) (len0 cap0 : Nat) (z0 : List Int) (a1 : Option Addr) (len1 cap1 : Nat) (z1 : List Int) (w : World) (w0 : Row w a0 len0 cap0 z0) (w1 : Row w a1 len1 cap1 z1) :
    Calls Try.prog 3 #[.slice a0 len0 cap0, .slice a1 len1 cap1] w fun e w' => e = .returned (.bool true) ∧ Below w.heap.size w w' := by
  by_cases c0 : (1048576 : Int) < len0
  · clear w0 w1
    go_enter Try.func3, Try.ntmps3
    go_wp2
    go_ret
    exact ⟨rfl, Below.refl _ _⟩
  by_cases c1 : (1048576 : Int) < len1
  · clear w0 w1
    go_enter Try.func3, Try.ntmps3
    go_wp2
    go_ret
    exact ⟨rfl, Below.refl _ _⟩
  have R0 : Hid (Row w a0 len0 cap0 z0) := w0
  have R1 : Hid (Row w a1 len1 cap1 z1) := w1
  clear w0 w1
  go_enter Try.func3, Try.ntmps3
  go_wp2_with fail
  refine (drawNumWrite _ _ _ _ _ R0.out).mono ?_
  rintro e wa ⟨n, bits, head, rfl, n0, n1, b0, b1, h0, h1, hb⟩
  go_wp2_with fail
  by_cases hok : nOk n bits head
  · have HO : Hid (nOk n bits head) := hok
    have hne := numS_ne n bits head
    clear hok
    refine (numWrite_ok _ _ _ _ HO.out).mono ?_
    rintro e wb ⟨rfl, hb2⟩
    go_wp2_with fail
    refine (specWrite_ok _ _ _ _ HO.out).mono ?_
    rintro e wc ⟨rfl, hb3⟩
    go_wp2_with fail
    refine (read_back _ _ _ HO.out _).mono ?_
    rintro e wd ⟨rfl, hb4⟩
    have hq : len1 % 5 ≤ len1 := Nat.mod_le _ _
    obtain ⟨t, ht, hcv⟩ := row_string (P := Try.prog) Try.underlying22 Try.underlying5 Try.underlying9 (R1.out.below (((hb.trans (hb2.mono hb.size)).trans (hb3.mono (Nat.le_trans hb.size hb2.size))).trans (hb4.mono (Nat.le_trans hb.size (Nat.le_trans hb2.size hb3.size))))) (len1 % 5) hq
    have hcap : (len1 : Int) ≤ cap1 := by have := R1.out.cap; omega
    have ht5 : t.size ≤ 4 := by omega
    have hns := numS_le n bits head
    clear ht hq
    go_wp2_with fail
    refine (read_back_more _ _ _ _ HO.out (by omega) _).mono ?_
    rintro e we ⟨rfl, hb5⟩
    go_wp2
    go_ret
    exact ⟨rfl, (((hb.trans (hb2.mono hb.size)).trans (hb3.mono (Nat.le_trans hb.size hb2.size))).trans (hb4.mono (Nat.le_trans hb.size (Nat.le_trans hb2.size hb3.size)))).trans (hb5.mono (Nat.le_trans hb.size (Nat.le_trans hb2.size (Nat.le_trans hb3.size hb4.size))))⟩
  · have HO : Hid (¬ nOk n bits head) := hok
    clear hok
    refine (numWrite_bad _ _ _ _ HO.out).mono ?_
    rintro e wb ⟨rfl, rfl⟩
    go_wp2_with fail
    refine (specWrite_bad _ _ _ _ HO.out).mono ?_
    rintro e wc ⟨rfl, rfl⟩
    go_wp2_with fail
    refine (specWrite_bad _ _ _ _ HO.out).mono ?_
    rintro e wd ⟨rfl, rfl⟩
    go_wp2
    go_ret
    exact ⟨rfl, hb⟩
end Go.Proofs.Ytloegojbenjfdaa
