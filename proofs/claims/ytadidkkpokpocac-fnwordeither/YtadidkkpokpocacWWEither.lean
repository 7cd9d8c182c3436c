import Derived.Test.YtadidkkpokpocacWLaw0
import Derived.Test.YtadidkkpokpocacImpW
import Derived.Test.YtadidkkpokpocacWDraw
namespace Go.Proofs.Ytadidkkpokpocac
open Go.RowKit
set_option linter.unusedVariables false

set_option maxHeartbeats 1000000 in
theorem fnWordEither_walk (a0 : Option Addr) (len0 cap0 : Nat) (z0 : List Int) (w : World) (w0 : Row w a0 len0 cap0 z0) :
    Calls Try.prog 5 #[.slice a0 len0 cap0] w fun e w' => e = .returned (.bool true) ∧ Below w.heap.size w w' := by
  by_cases c0 : (1048576 : Int) < len0
  · clear w0
    go_enter Try.func5, Try.ntmps5
    go_wp2
    go_ret
    exact ⟨rfl, Below.refl _ _⟩
  have R0 : Hid (Row w a0 len0 cap0 z0) := w0
  clear w0
  go_enter Try.func5, Try.ntmps5
  go_wp2_with fail
  refine (drawWordWrite _ _ _ _ _ R0.out).mono ?_
  rintro e wa ⟨t, rfl, ht, hb⟩
  have HT : Hid (t.size ≤ maxLen) := show t.size ≤ maxLen by unfold maxLen; omega
  go_wp2_with fail
  refine (implWrite _ _ HT.out).mono ?_
  rintro e wb ⟨rfl, hb2⟩
  go_wp2_with fail
  refine (specWrite _ _ HT.out).mono ?_
  rintro e wc ⟨rfl, hb3⟩
  have hB := bt (bt hb hb2) hb3
  clear hb hb2 hb3
  by_cases hok : wOk (bytesL t) = true
  · have hne := isEmpty_false (wrV_pos hok)
    have hpos := wrV_pos hok
    have hsz := wrV_size t
    have HK : Hid (wOk (bytesL t) = true) := hok
    clear hok
    obtain ⟨hS, hL⟩ := wOk_allS HK.out
    rw [bytesL_length] at hL
    have HS : Hid (allS (bytesL t)) := hS
    clear hS
    have hcv := fun n w => convert_one (P := Try.prog) Try.underlying22 Try.underlying5 Try.underlying9 n w
    have hps := packV_size t
    have HPL : Hid ((packV t).size = (packL (bytesL t)).length) := by show (packV t).size = _; rw [packV_ok HK.out, strOfNums_size]
    have hs1 : ∀ x, (strOfNums [x]).size = 1 := fun _ => rfl
    have HM1 : Hid ((strOfNums [(t.size : Int)] ++ t).size ≤ maxLen) := show (strOfNums [(t.size : Int)] ++ t).size ≤ maxLen by rw [ByteArray.size_append, hs1]; unfold maxLen; omega
    have HM2 : Hid ((strOfNums [128 + ((packV t).size : Int)] ++ packV t).size ≤ maxLen) := show (strOfNums [128 + ((packV t).size : Int)] ++ packV t).size ≤ maxLen by rw [ByteArray.size_append, hs1]; unfold maxLen; omega
    have HR1 : Hid (rdWV (strOfNums [(t.size : Int)] ++ t) = (t, 1 + (t.size : Int), true)) := by
      show rdWV (strOfNums [(t.size : Int)] ++ t) = (t, 1 + (t.size : Int), true)
      have e := rdWL_plain (bytesL t) [] HS.out (by rw [bytesL_length]; exact hL)
      rw [List.append_nil, bytesL_length] at e
      rw [rdWV_some (o := bytesL t) (u := 1 + (t.size : Int)) (by rw [bytesL_append, bytesL_strOfNums _ (by intro x hx; simp at hx; omega)]; exact e), strOfNums_bytesL]
    have HR2 : Hid (rdWV (strOfNums [128 + ((packV t).size : Int)] ++ packV t) = (t, 1 + ((packV t).size : Int), true)) := by
      show rdWV (strOfNums [128 + ((packV t).size : Int)] ++ packV t) = (t, 1 + ((packV t).size : Int), true)
      have e := rdWL_pack (bytesL t) [] HS.out (by rw [bytesL_length]; exact hL)
      rw [List.append_nil] at e
      rw [rdWV_some (o := bytesL t) (u := 1 + ((packV t).size : Int)) (by rw [bytesL_append, bytesL_strOfNums _ (by intro x hx; simp at hx; omega), bytesL_packV HK.out, HPL.out]; exact e), strOfNums_bytesL]
    go_wp2_with fail
    refine (implPack _ _ HT.out).mono ?_
    rintro e wd ⟨rfl, hb4⟩
    have hB2 := bt hB hb4
    clear hB hb4
    go_wp2_with fail
    refine (implRead _ _ HM1.out).mono ?_
    rw [HR1.out]
    rintro e we ⟨rfl, hb5⟩
    go_wp2_with fail
    refine (implRead _ _ HM2.out).mono ?_
    rw [HR2.out]
    rintro e wf ⟨rfl, hb6⟩
    go_wp2
    go_ret
    exact ⟨rfl, bt ((bt (hB2.alloc hB2.size _) hb5).alloc (bt (hB2.alloc hB2.size _) hb5).size _) hb6⟩
  · have hbad : wOk (bytesL t) = false := by simpa using hok
    rw [wrV_bad hbad]
    clear hok
    go_wp2_with fail
    refine (specWrite _ _ HT.out).mono ?_
    rw [wrV_bad hbad]
    rintro e wd ⟨rfl, hb4⟩
    go_wp2
    go_ret
    exact ⟨rfl, bt hB hb4⟩
end Go.Proofs.Ytadidkkpokpocac
