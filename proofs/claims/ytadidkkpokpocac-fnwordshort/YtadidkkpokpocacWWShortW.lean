import Derived.Test.YtadidkkpokpocacWLaw0
import Derived.Test.YtadidkkpokpocacImpW2
import Derived.Test.YtadidkkpokpocacWDraw
namespace Go.Proofs.Ytadidkkpokpocac
open Go.RowKit
set_option linter.unusedVariables false

set_option maxHeartbeats 1000000 in
theorem fnWordShort_walk (a0 : Option Addr) (len0 cap0 : Nat) (z0 : List Int) (w : World) (w0 : Row w a0 len0 cap0 z0) :
    Calls Try.prog 4 #[.slice a0 len0 cap0] w fun e w' => e = .returned (.bool true) ∧ Below w.heap.size w w' := by
  by_cases c0 : (1048576 : Int) < len0
  · clear w0
    go_enter Try.func4, Try.ntmps4
    go_wp2
    go_ret
    exact ⟨rfl, Below.refl _ _⟩
  have R0 : Hid (Row w a0 len0 cap0 z0) := w0
  clear w0
  go_enter Try.func4, Try.ntmps4
  go_wp2_with fail
  refine (drawWordWrite _ _ _ _ _ R0.out).mono ?_
  rintro e wa ⟨t, rfl, ht, hb⟩
  have HT : Hid (t.size ≤ maxLen) := show t.size ≤ maxLen by unfold maxLen; omega
  go_wp2_with fail
  refine (implWrite _ _ HT.out).mono ?_
  rintro e wb ⟨rfl, hb2⟩
  go_wp2_with fail
  refine (specWrite _ _ HT.out).mono ?_
  rintro e wc ⟨rfl, hb3⟩
  have hB := bt (bt hb hb2) hb3
  clear hb hb2 hb3
  by_cases hok : wOk (bytesL t) = true
  · have hne := isEmpty_false (wrV_pos hok)
    have hpos := wrV_pos hok
    have hsz := wrV_size t
    have HK : Hid (wOk (bytesL t) = true) := hok
    clear hok
    have hL := (wOk_allS HK.out).2
    rw [bytesL_length] at hL
    have hps := packV_size t
    have HPL : Hid ((packV t).size = (packL (bytesL t)).length) := by show (packV t).size = _; rw [packV_ok HK.out, strOfNums_size]
    have HWL : Hid (bytesL (wrV t) = wrL (bytesL t)) := bytesL_wrV HK.out
    go_wp2_with fail
    refine (implPack _ _ HT.out).mono ?_
    rintro e wd ⟨rfl, hb4⟩
    have hB2 := bt hB hb4
    clear hB hb4
    by_cases hc : (packV t).size < t.size
    · have hc' : ((packV t).size : Int) < t.size := by omega
      have hW : bytesL (wrV t) = (128 + ((packV t).size : Int)) :: packL (bytesL t) := by
        rw [HWL.out]; unfold wrL
        rw [if_pos (by rw [← HPL.out, bytesL_length]; exact hc), HPL.out]
      have e1 : (((wrV t).extract 1 (wrV t).size).toList == (packV t).toList) = true := eqT (by
        apply bytesL_inj
        rw [bytesL_extract, hW, ← bytesL_length, hW, bytesL_packV HK.out, List.take_of_length_le (Nat.le_refl _)]; rfl)
      have q0 : (((wrV t)[0]'hpos).toNat : Int) = 128 + ((packV t).size : Int) := (of_cons hW rfl).2.1
      clear hW
      go_wp2
      go_ret
      exact ⟨rfl, hB2⟩
    · have hc' : (t.size : Int) ≤ (packV t).size := by omega
      have hW : bytesL (wrV t) = (t.size : Int) :: bytesL t := by
        rw [HWL.out]; unfold wrL
        rw [if_neg (by rw [← HPL.out, bytesL_length]; exact hc), bytesL_length]
      have e1 : (((wrV t).extract 1 (wrV t).size).toList == t.toList) = true := eqT (by
        apply bytesL_inj
        rw [bytesL_extract, hW, ← bytesL_length, hW, List.take_of_length_le (Nat.le_refl _)]; rfl)
      have q0 : (((wrV t)[0]'hpos).toNat : Int) = (t.size : Int) := (of_cons hW rfl).2.1
      clear hW
      go_wp2
      go_ret
      exact ⟨rfl, hB2⟩
  · have hbad : wOk (bytesL t) = false := by simpa using hok
    rw [wrV_bad hbad]
    clear hok
    go_wp2_with fail
    refine (specWrite _ _ HT.out).mono ?_
    rw [wrV_bad hbad]
    rintro e wd ⟨rfl, hb4⟩
    go_wp2
    go_ret
    exact ⟨rfl, bt hB hb4⟩
end Go.Proofs.Ytadidkkpokpocac
