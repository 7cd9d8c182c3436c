import Derived.Test.YtloegojbenjfdaaLaws0
namespace Go.Proofs.Ytloegojbenjfdaa
open Go.RowKit
set_option linter.unusedVariables false

theorem ret_bool {b : Bool} (h : b = true) : Ending.returned (.bool b) = .returned (.bool true) := by rw [h]

set_option maxHeartbeats 1000000 in
theorem fnNumShort_walk (a0 : Option Addr) (len0 cap0 : Nat) (z0 : List Int) (a1 : Option Addr) (len1 cap1 : Nat) (z1 : List Int) (w : World) (w0 : Row w a0 len0 cap0 z0) (w1 : Row w a1 len1 cap1 z1) :
    Calls Try.prog 5 #[.slice a0 len0 cap0, .slice a1 len1 cap1] w fun e w' => e = .returned (.bool true) ∧ Below w.heap.size w w' := by
  by_cases c0 : (1048576 : Int) < len0
  · clear w0 w1
    go_enter Try.func5, Try.ntmps5
    go_wp2
    go_ret
    exact ⟨rfl, Below.refl _ _⟩
  by_cases c1 : (1048576 : Int) < len1
  · clear w0 w1
    go_enter Try.func5, Try.ntmps5
    go_wp2
    go_ret
    exact ⟨rfl, Below.refl _ _⟩
  have R0 : Hid (Row w a0 len0 cap0 z0) := w0
  have R1 : Hid (Row w a1 len1 cap1 z1) := w1
  clear w0 w1
  go_enter Try.func5, Try.ntmps5
  go_wp2_with fail
  refine (drawNumWrite _ _ _ _ _ R0.out).mono ?_
  rintro e wa ⟨n, bits, head, rfl, n0, n1, b0, b1, h0, h1, hb⟩
  go_wp2_with fail
  by_cases hok : nOk n bits head
  · have HO : Hid (nOk n bits head) := hok
    have hne := numS_ne n bits head
    obtain ⟨k0, k1, k2, k3, k4, k5⟩ := hok
    refine (numWrite_ok _ _ _ _ HO.out).mono ?_
    rintro e wb ⟨rfl, hb2⟩
    go_wp2_with fail
    refine (specWrite_ok _ _ _ _ HO.out).mono ?_
    rintro e wc ⟨rfl, hb3⟩
    have r0 : 0 ≤ (len1 : Int) % (n + 1) := Int.emod_nonneg _ (by omega)
    have r1 : (len1 : Int) % (n + 1) ≤ n := by have := Int.emod_lt_of_pos (len1 : Int) (show 0 < n + 1 by omega); omega
    have HL : Hid (nOk ((len1 : Int) % (n + 1)) bits head) := show nOk ((len1 : Int) % (n + 1)) bits head from ⟨k0, k1, r0, by omega, k4, k5⟩
    have hL := len_mono (k := (len1 : Int) % (n + 1)) (n := n) (bits := bits) (head := head) r1
    have hL0 := numS_pos ((len1 : Int) % (n + 1)) bits head
    have hp := pw_bd bits k0 k1
    obtain ⟨p0, p1⟩ := hp
    have hL' : (((numS ((len1 : Int) % (n + 1)) bits head).size : Nat) : Int) ≤ ((numS n bits head).size : Nat) := by omega
    have hB : Below w.heap.size w wc := bt (bt hb hb2) hb3
    clear hL hb hb2 hb3 h0 h1 b0 b1 n0 n1 k5
    go_wp2_with fail
    refine (numWrite_ok _ _ _ _ HL.out).mono ?_
    rintro e wd ⟨rfl, hb4⟩
    by_cases t1 : n < pw bits - 1
    · have e1 := len_a (head := head) t1
      have t2 : (n == pw bits - 1) = false := by simp; omega
      have hL2 : (((numS ((len1 : Int) % (n + 1)) bits head).size : Nat) : Int) ≤ 1 := by rw [e1] at hL'; exact hL'
      clear hL'
      go_wp2_with (go_at_call 15; refine (lkTop_any _ _ (by omega) (by omega)).mono ?_; rintro e wx ⟨rfl, rfl⟩)
      all_goals
        go_ret
        refine ⟨ret_bool ?_, bt hB hb4⟩
        first
          | rfl
          | (simp; omega)
          | (exfalso; omega)
          | (rw [len_b (by omega) (by omega)]; rfl)
    · by_cases t2 : n = pw bits - 1
      · have e1 := len_b (head := head) t1 (by omega)
        have t3 : (n == pw bits - 1) = true := by simp; omega
        have t4 : pw bits - 1 ≤ n := by omega
        have hL2 : (((numS ((len1 : Int) % (n + 1)) bits head).size : Nat) : Int) ≤ 2 := by rw [e1] at hL'; exact hL'
        clear hL' t2
        go_wp2_with (go_at_call 15; refine (lkTop_any _ _ (by omega) (by omega)).mono ?_; rintro e wx ⟨rfl, rfl⟩)
        all_goals
          go_ret
          refine ⟨ret_bool ?_, bt hB hb4⟩
          first
            | rfl
            | (simp; omega)
            | (exfalso; omega)
            | (rw [len_b (by omega) (by omega)]; rfl)
      · have t3 : (n == pw bits - 1) = false := by simp; omega
        have t4 : pw bits - 1 ≤ n := by omega
        by_cases t5 : n - (pw bits - 1) < 128
        · have e1 := len_b (head := head) t1 t5
          have hL2 : (((numS ((len1 : Int) % (n + 1)) bits head).size : Nat) : Int) ≤ 2 := by rw [e1] at hL'; exact hL'
          clear hL' t2
          go_wp2_with (go_at_call 15; refine (lkTop_any _ _ (by omega) (by omega)).mono ?_; rintro e wx ⟨rfl, rfl⟩)
          all_goals
            go_ret
            refine ⟨ret_bool ?_, bt hB hb4⟩
            first
              | rfl
              | (simp; omega)
              | (exfalso; omega)
              | (rw [len_b (by omega) (by omega)]; rfl)
        · have e1 := len_c (head := head) t1 t5
          have hL2 : (((numS ((len1 : Int) % (n + 1)) bits head).size : Nat) : Int) ≤ 3 := by rw [e1] at hL'; exact hL'
          clear hL' t2
          go_wp2_with (go_at_call 15; refine (lkTop_any _ _ (by omega) (by omega)).mono ?_; rintro e wx ⟨rfl, rfl⟩)
          all_goals
            go_ret
            refine ⟨ret_bool ?_, bt hB hb4⟩
            first
              | rfl
              | (simp; omega)
              | (exfalso; omega)
              | (rw [len_b (by omega) (by omega)]; rfl)
  · have HO : Hid (¬ nOk n bits head) := hok
    clear hok
    refine (numWrite_bad _ _ _ _ HO.out).mono ?_
    rintro e wb ⟨rfl, rfl⟩
    go_wp2_with fail
    refine (specWrite_bad _ _ _ _ HO.out).mono ?_
    rintro e wc ⟨rfl, rfl⟩
    go_wp2_with fail
    refine (specWrite_bad _ _ _ _ HO.out).mono ?_
    rintro e wd ⟨rfl, rfl⟩
    go_wp2
    go_ret
    exact ⟨rfl, hb⟩
end Go.Proofs.Ytloegojbenjfdaa
