import Derived.Test.YtadidkkpokpocadWLaw0
import Derived.Test.YtadidkkpokpocadImpW
import Derived.Test.YtadidkkpokpocadWDraw
namespace Go.Proofs.Ytadidkkpokpocad
open Go.RowKit
set_option linter.unusedVariables false

set_option maxHeartbeats 1000000 in
theorem fnWordLack_walk (a0 : Option Addr) (len0 cap0 : Nat) (z0 : List Int) (a1 : Option Addr) (len1 cap1 : Nat) (z1 : List Int) (w : World) (w0 : Row w a0 len0 cap0 z0) (w1 : Row w a1 len1 cap1 z1) :
    Calls Try.prog 4 #[.slice a0 len0 cap0, .slice a1 len1 cap1] w fun e w' => e = .returned (.bool true) ∧ Below w.heap.size w w' := by
  by_cases c0 : (1048576 : Int) < len0
  · clear w0 w1
    go_enter Try.func4, Try.ntmps4
    go_wp2
    go_ret
    exact ⟨rfl, Below.refl _ _⟩
  by_cases c1 : (1048576 : Int) < len1
  · clear w0 w1
    go_enter Try.func4, Try.ntmps4
    go_wp2
    go_ret
    exact ⟨rfl, Below.refl _ _⟩
  have R0 : Hid (Row w a0 len0 cap0 z0) := w0
  have R1 : Hid (Row w a1 len1 cap1 z1) := w1
  clear w0 w1
  go_enter Try.func4, Try.ntmps4
  go_wp2_with fail
  refine (drawWordWrite _ _ _ _ _ R0.out).mono ?_
  rintro e wa ⟨t, rfl, ht, hb⟩
  have HT : Hid (t.size ≤ maxLen) := show t.size ≤ maxLen by unfold maxLen; omega
  go_wp2_with fail
  refine (implWrite _ _ HT.out).mono ?_
  rintro e wb ⟨rfl, hb2⟩
  go_wp2_with fail
  refine (specWrite _ _ HT.out).mono ?_
  rintro e wc ⟨rfl, hb3⟩
  have hB := bt (bt hb hb2) hb3
  clear hb hb2 hb3
  by_cases hok : wOk (bytesL t) = true
  · have hne := isEmpty_false (wrV_pos hok)
    have hpos := wrV_pos hok
    have hsz := wrV_size t
    have HK : Hid (wOk (bytesL t) = true) := hok
    clear hok
    obtain ⟨k, hk⟩ : ∃ k : Nat, len1 % (wrV t).size = k := ⟨_, rfl⟩
    have hkt : k < (wrV t).size := by rw [← hk]; exact Nat.mod_lt _ hpos
    have hki : (len1 : Int) % ((wrV t).size : Int) = (k : Int) := by rw [← hk]; simp
    have hkt' : (k : Int) ≤ (wrV t).size := by omega
    have hp' : ¬ (((wrV t).size : Nat) : Int) = 0 := by omega
    have HM : Hid (((wrV t).extract 0 k).size ≤ maxLen) := show ((wrV t).extract 0 k).size ≤ maxLen by rw [ByteArray.size_extract]; unfold maxLen; omega
    have HL : Hid (rdWV ((wrV t).extract 0 k) = (⟨#[]⟩, 0, false)) := rdWV_lack HK.out k hkt
    clear hk
    go_wp2_with fail
    refine (implRead _ _ HM.out).mono ?_
    rw [HL.out]
    rintro e wd ⟨rfl, hb4⟩
    go_wp2
    go_ret
    exact ⟨rfl, bt hB hb4⟩
  · have hbad : wOk (bytesL t) = false := by simpa using hok
    rw [wrV_bad hbad]
    clear hok
    go_wp2_with fail
    refine (specWrite _ _ HT.out).mono ?_
    rw [wrV_bad hbad]
    rintro e wd ⟨rfl, hb4⟩
    go_wp2
    go_ret
    exact ⟨rfl, bt hB hb4⟩
end Go.Proofs.Ytadidkkpokpocad
