import Derived.Test.YtloegojbenjfdabLaws0
namespace Go.Proofs.Ytloegojbenjfdab
open Go.RowKit
set_option linter.unusedVariables false

set_option maxHeartbeats 1000000 in
theorem fnNumTwo_walk (a0 : Option Addr) (len0 cap0 : Nat) (z0 : List Int) (a1 : Option Addr) (len1 cap1 : Nat) (z1 : List Int) (w : World) (w0 : Row w a0 len0 cap0 z0) (w1 : Row w a1 len1 cap1 z1) :
    Calls Try.prog 3 #[.slice a0 len0 cap0, .slice a1 len1 cap1] w fun e w' => e = .returned (.bool true) ∧ Below w.heap.size w w' := by
  by_cases c0 : (1048576 : Int) < len0
  · clear w0 w1
    go_enter Try.func3, Try.ntmps3
    go_wp2
    go_ret
    exact ⟨rfl, Below.refl _ _⟩
  by_cases c1 : (1048576 : Int) < len1
  · clear w0 w1
    go_enter Try.func3, Try.ntmps3
    go_wp2
    go_ret
    exact ⟨rfl, Below.refl _ _⟩
  have R0 : Hid (Row w a0 len0 cap0 z0) := w0
  have R1 : Hid (Row w a1 len1 cap1 z1) := w1
  clear w0 w1
  go_enter Try.func3, Try.ntmps3
  go_wp2_with fail
  refine (drawNumWrite _ _ _ _ _ R0.out).mono ?_
  rintro e wa ⟨n, bits, head, rfl, n0, n1, b0, b1, h0, h1, hb⟩
  go_wp2_with fail
  by_cases hok : nOk n bits head
  · have HO : Hid (nOk n bits head) := hok
    have hne := numS_ne n bits head
    obtain ⟨k0, k1, k2, k3, k4, k5⟩ := hok
    refine (numWrite_ok _ _ _ _ HO.out).mono ?_
    rintro e wb ⟨rfl, hb2⟩
    go_wp2_with fail
    refine (specWrite_ok _ _ _ _ HO.out).mono ?_
    rintro e wc ⟨rfl, hb3⟩
    have hB : Below w.heap.size w wc := bt (bt hb hb2) hb3
    clear hb hb2 hb3 h0 h1 b0 b1 n0 n1
    have hp := pw_pos (8 - bits)
    have HL : Hid (nOk ((len1 : Int) * 7 % 10000) bits 0) := show nOk ((len1 : Int) * 7 % 10000) bits 0 from ⟨k0, k1, by omega, by omega, by omega, by omega⟩
    have e3 := numS_le n bits head
    have e4 := numS_le ((len1 : Int) * 7 % 10000) bits 0
    go_wp2_with fail
    refine (numWrite_ok _ _ _ _ HL.out).mono ?_
    rintro e wd ⟨rfl, hb4⟩
    go_wp2_with fail
    refine (read_back_more _ _ _ _ HO.out (by omega) _).mono ?_
    rintro e we ⟨rfl, hb5⟩
    have e6 : (numS n bits head ++ numS ((len1 : Int) * 7 % 10000) bits 0).extract (numS n bits head).size ((numS n bits head).size + (numS ((len1 : Int) * 7 % 10000) bits 0).size) = numS ((len1 : Int) * 7 % 10000) bits 0 := by
      apply bytesL_inj
      rw [bytesL_extract, bytesL_append, numS_size, numS_size, bytesL_numS _ _ _ HO.out, bytesL_numS _ _ _ HL.out, ← List.length_append, List.take_length, List.drop_left]
    go_wp2_with fail
    refine (read_back _ _ _ HL.out _).mono ?_
    rintro e wf ⟨rfl, hb6⟩
    go_wp2
    go_ret
    exact ⟨rfl, bt (bt (bt hB hb4) hb5) hb6⟩
  · have HO : Hid (¬ nOk n bits head) := hok
    clear hok
    refine (numWrite_bad _ _ _ _ HO.out).mono ?_
    rintro e wb ⟨rfl, rfl⟩
    go_wp2_with fail
    refine (specWrite_bad _ _ _ _ HO.out).mono ?_
    rintro e wc ⟨rfl, rfl⟩
    go_wp2_with fail
    refine (specWrite_bad _ _ _ _ HO.out).mono ?_
    rintro e wd ⟨rfl, rfl⟩
    go_wp2
    go_ret
    exact ⟨rfl, hb⟩
end Go.Proofs.Ytloegojbenjfdab
