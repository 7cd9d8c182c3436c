import Derived.Test.YtloegojbenjfdaaLaws0
import Derived.Deep.QuietTactic
import Derived.BigQuiet
namespace Go.Proofs.Ytloegojbenjfdaa
open Go.RowKit
set_option linter.unusedVariables false

set_option maxHeartbeats 1000000 in
theorem fnNumHead_walk (a0 : Option Addr) (len0 cap0 : Nat) (z0 : List Int) (a1 : Option Addr) (len1 cap1 : Nat) (z1 : List Int) (w : World) (w0 : Row w a0 len0 cap0 z0) (w1 : Row w a1 len1 cap1 z1) :
    Calls Try.prog 6 #[.slice a0 len0 cap0, .slice a1 len1 cap1] w fun e w' => e = .returned (.bool true) ∧ Below w.heap.size w w' := by
  by_cases c0 : (1048576 : Int) < len0
  · clear w0 w1
    go_enter Try.func6, Try.ntmps6
    go_wp2
    go_ret
    exact ⟨rfl, Below.refl _ _⟩
  by_cases c1 : (1048576 : Int) < len1
  · clear w0 w1
    go_enter Try.func6, Try.ntmps6
    go_wp2
    go_ret
    exact ⟨rfl, Below.refl _ _⟩
  have R0 : Hid (Row w a0 len0 cap0 z0) := w0
  have R1 : Hid (Row w a1 len1 cap1 z1) := w1
  clear w0 w1
  go_enter Try.func6, Try.ntmps6
  go_wp2_with fail
  refine (drawNumWrite _ _ _ _ _ R0.out).mono ?_
  rintro e wa ⟨n, bits, head, rfl, n0, n1, b0, b1, h0, h1, hb⟩
  go_wp2_with fail
  by_cases hok : nOk n bits head
  · have HO : Hid (nOk n bits head) := hok
    have hne := numS_ne n bits head
    obtain ⟨k0, k1, k2, k3, k4, k5⟩ := hok
    refine (numWrite_ok _ _ _ _ HO.out).mono ?_
    rintro e wb ⟨rfl, hb2⟩
    go_wp2_with fail
    refine (specWrite_ok _ _ _ _ HO.out).mono ?_
    rintro e wc ⟨rfl, hb3⟩
    have hp := pw_bd2 (8 - bits) (by omega) (by omega)
    obtain ⟨p0, p1⟩ := hp
    have r0 : 0 ≤ (len1 : Int) % pw (8 - bits) := Int.emod_nonneg _ (by omega)
    have r1 : (len1 : Int) % pw (8 - bits) < pw (8 - bits) := Int.emod_lt_of_pos (len1 : Int) (by omega)
    have hB : Below w.heap.size w wc := bt (bt hb hb2) hb3
    clear hb hb2 hb3 h0 h1 b0 b1 n0 n1
    have HL : Hid (nOk n bits ((len1 : Int) % pw (8 - bits))) := show nOk n bits ((len1 : Int) % pw (8 - bits)) from ⟨k0, k1, k2, k3, r0, r1⟩
    go_wp2_with (go_at_call 15; refine (lkTop_any _ _ (by omega) (by omega)).mono ?_; rintro e wx ⟨rfl, rfl⟩)
    refine (numWrite_ok _ _ _ _ HL.out).mono ?_
    rintro e wd ⟨rfl, hb4⟩
    go_wp2_with fail
    refine (read_back _ _ _ HL.out _).mono ?_
    rintro e we ⟨rfl, hb5⟩
    have e1 := len_head n bits head ((len1 : Int) % pw (8 - bits))
    have e2 := numS_pos n bits head
    have e3 := numS_le n bits head
    have e4 : (((numS n bits ((len1 : Int) % pw (8 - bits))).extract 1 (numS n bits head).size).toList == ((numS n bits head).extract 1 (numS n bits head).size).toList) = true := eqT (tail_head n bits head ((len1 : Int) % pw (8 - bits)) HO.out HL.out _)
    have e5 : (1 : Int) ≤ ((numS n bits head).size : Nat) := by omega
    by_cases t : (len1 : Int) % pw (8 - bits) = head
    · have e6 : ((numS n bits ((len1 : Int) % pw (8 - bits))).toList == (numS n bits head).toList) = true := eqT (by rw [t])
      have e7 : ((len1 : Int) % pw (8 - bits) == head) = true := by simp [t]
      clear t
      go_wp2
      go_quiet (fail)
      go_wp2
      go_ret
      exact ⟨rfl, below_drewN (bt (bt hB hb4) hb5) _⟩
    · have e6 : ((numS n bits ((len1 : Int) % pw (8 - bits))).toList == (numS n bits head).toList) = false := neF (head_ne HO.out HL.out t)
      have e7 : ((len1 : Int) % pw (8 - bits) == head) = false := by simp [t]
      clear t
      go_wp2
      go_quiet (fail)
      go_wp2
      go_ret
      exact ⟨rfl, below_drewN (bt (bt hB hb4) hb5) _⟩
  · have HO : Hid (¬ nOk n bits head) := hok
    clear hok
    refine (numWrite_bad _ _ _ _ HO.out).mono ?_
    rintro e wb ⟨rfl, rfl⟩
    go_wp2_with fail
    refine (specWrite_bad _ _ _ _ HO.out).mono ?_
    rintro e wc ⟨rfl, rfl⟩
    go_wp2_with fail
    refine (specWrite_bad _ _ _ _ HO.out).mono ?_
    rintro e wd ⟨rfl, rfl⟩
    go_wp2
    go_ret
    exact ⟨rfl, hb⟩
end Go.Proofs.Ytloegojbenjfdaa
