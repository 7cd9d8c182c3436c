import Derived.Test.YtadidkkpokpocabWLaw0
import Derived.Test.YtadidkkpokpocabImpW
import Derived.Test.YtadidkkpokpocabWDraw
import Derived.Deep.QuietTactic
import Derived.BigQuiet
namespace Go.Proofs.Ytadidkkpokpocab
open Go.RowKit
set_option linter.unusedVariables false

theorem stepU_ones16 (p : Nat) (h : p < 16) : stepU (List.replicate p 1) = none := by
  by_cases h8 : p < 8
  · exact stepU_ones p h8
  · rcases (by omega : p = 8 ∨ p = 9 ∨ p = 10 ∨ p = 11 ∨ p = 12 ∨ p = 13 ∨ p = 14 ∨ p = 15) with rfl | rfl | rfl | rfl | rfl | rfl | rfl | rfl <;> decide
theorem convert_one_drew {P : Program} {e src dst : TypeId}
    (hs : P.underlying src = some (.slice e)) (he : P.underlying e = some (.int .u8)) (hd : P.underlying dst = some .string) (n : Int) (w : World) :
    (convert src dst (.slice (some ⟨w.heap.size, 0, none⟩) 1 1)).run P (w.alloc (.cells #[.int .u8 n] e)).drew = .ok (.string (strOfNums [n])) (w.alloc (.cells #[.int .u8 n] e)).drew := by
  refine run_convert_bytes_arg _ src e hs he w.heap.size 0 1 1 [n] rfl ?_ dst hd
  intro i hi
  have : i = 0 := by omega
  subst this
  simp
theorem u8_xor_one (x : Int) (h0 : 0 ≤ x) (h1 : x ≤ 255) : 0 ≤ bits .xor .u8 x 1 ∧ bits .xor .u8 x 1 ≤ 255 ∧ bits .xor .u8 x 1 ≠ x := by
  obtain ⟨a, rfl⟩ := Int.eq_ofNat_of_zero_le h0
  have ha : a < 256 := by omega
  have key : ∀ a : Fin 256, 0 ≤ bits .xor .u8 ((a.1 : Nat) : Int) 1 ∧ bits .xor .u8 ((a.1 : Nat) : Int) 1 ≤ 255 ∧ bits .xor .u8 ((a.1 : Nat) : Int) 1 ≠ ((a.1 : Nat) : Int) := by decide +kernel
  exact key ⟨a, ha⟩
/-- With a byte of ones behind it a word is none. -/
theorem unpL_ones (l : List Int) (h : allS l) : unpL (packL l ++ [255]) = none := by
  match hu : unpL (packL l ++ [255]) with
  | none => rfl
  | some o =>
    exfalso
    obtain ⟨h1, h2, h3⟩ := unpL_strict _ o (by
      intro x hx
      rcases List.mem_append.1 hx with hx | hx
      · exact packL_bd l x hx
      · simp at hx; omega) hu
    have e1 := unp_pad o h1
    rw [← bytesB_packL, h3, bytesB_snoc, bytesB_packL] at e1
    have e2 : bitsL 8 255 = List.replicate 8 1 := by decide
    unfold padB at e1
    rw [e2, List.append_assoc, List.replicate_append_replicate, unp_pack l h _ (stepU_ones16 _ (by omega))] at e1
    have e3 := congrArg (fun p => p.2.length) e1
    simp only [List.length_replicate] at e3
    omega

set_option maxHeartbeats 1000000 in
theorem fnPackOnes_walk (a0 : Option Addr) (len0 cap0 : Nat) (z0 : List Int) (w : World) (w0 : Row w a0 len0 cap0 z0) :
    Calls Try.prog 8 #[.slice a0 len0 cap0] w fun e w' => e = .returned (.bool true) ∧ Below w.heap.size w w' := by
  by_cases c0 : (1048576 : Int) < len0
  · clear w0
    go_enter Try.func8, Try.ntmps8
    go_wp2
    go_ret
    exact ⟨rfl, Below.refl _ _⟩
  have R0 : Hid (Row w a0 len0 cap0 z0) := w0
  clear w0
  go_enter Try.func8, Try.ntmps8
  go_wp2_with fail
  refine (drawWordPack _ _ _ _ _ R0.out).mono ?_
  rintro e wa ⟨t, rfl, ht, hb⟩
  have HT : Hid (t.size ≤ maxLen) := show t.size ≤ maxLen by unfold maxLen; omega
  go_wp2_with fail
  refine (implPack _ _ HT.out).mono ?_
  rintro e wb ⟨rfl, hb2⟩
  go_wp2_with fail
  refine (specPack _ _ HT.out).mono ?_
  rintro e wc ⟨rfl, hb3⟩
  have hB := bt (bt hb hb2) hb3
  clear hb hb2 hb3
  go_wp2_with fail
  refine (specWordOk _ _ HT.out).mono ?_
  obtain ⟨ok, hok⟩ : ∃ ok, wOk (bytesL t) = ok := ⟨_, rfl⟩
  have HK : Hid (wOk (bytesL t) = ok) := hok
  rw [hok]
  rintro e wd ⟨rfl, rfl⟩
  cases ok with
  | false =>
    clear hok
    go_wp2_with fail
    refine (specPack _ _ HT.out).mono ?_
    rintro e we ⟨rfl, hb4⟩
    go_wp2
    go_ret
    exact ⟨rfl, bt hB hb4⟩
  | true =>
    obtain ⟨hS, hL⟩ := wOk_allS hok
    rw [bytesL_length] at hL
    have HS : Hid (allS (bytesL t)) := hS
    have hps := packV_size t
    have HPL : Hid ((packV t).size = (packL (bytesL t)).length) := by show (packV t).size = _; rw [packV_ok hok, strOfNums_size]
    clear hok hS
    by_cases h0 : (packV t).size = 0
    · rw [size_zero h0]
      go_wp2_with fail
      refine (specPack _ _ HT.out).mono ?_
      rw [size_zero h0]
      rintro e we ⟨rfl, hb4⟩
      go_wp2
      go_ret
      exact ⟨rfl, bt hB hb4⟩
    · have hne := isEmpty_false (show 0 < (packV t).size by omega)
      have HM1 : Hid ((packV t ++ ⟨#[255]⟩).size ≤ maxLen) := show (packV t ++ ⟨#[255]⟩).size ≤ maxLen by rw [ByteArray.size_append, show (⟨#[255]⟩ : ByteArray).size = 1 from rfl]; unfold maxLen; omega
      have HU1 : Hid (unpV (packV t ++ ⟨#[255]⟩) = (⟨#[]⟩, false)) := by
        show unpV (packV t ++ ⟨#[255]⟩) = (⟨#[]⟩, false)
        apply unpV_none
        rw [bytesL_append, bytesL_packV HK.out, show bytesL ⟨#[255]⟩ = [255] by decide]
        exact unpL_ones _ HS.out
      go_wp2_with fail
      refine (implUnpack _ _ HM1.out).mono ?_
      rw [HU1.out]
      rintro e we ⟨rfl, hb4⟩
      have hB2 := bt hB hb4
      clear hB hb4
      obtain ⟨m, hm⟩ : ∃ m : Nat, (packV t).size = m + 1 := ⟨(packV t).size - 1, by omega⟩
      have hmi : ((packV t).size : Int) - 1 = (m : Int) := by omega
      have hmlt : m < (packV t).size := by omega
      have hmlt' : (m : Int) < (packV t).size := by omega
      have hmle : (m : Int) ≤ (packV t).size := by omega
      obtain ⟨x0, hx0⟩ : ∃ x0 : Int, (((packV t)[m]'hmlt).toNat : Int) = x0 := ⟨_, rfl⟩
      have hx1 : 0 ≤ x0 := by omega
      have hx2 : x0 ≤ 255 := by have := ((packV t)[m]'hmlt).toNat_lt; omega
      obtain ⟨y0, hy0⟩ : ∃ y0 : Int, bits .xor .u8 x0 1 = y0 := ⟨_, rfl⟩
      have hy := u8_xor_one x0 hx1 hx2
      rw [hy0] at hy
      obtain ⟨hy1, hy2, hy3⟩ := hy
      have hcv := fun n w => convert_one_drew (P := Try.prog) Try.underlying22 Try.underlying5 Try.underlying9 n w
      have hs1 : ∀ x, (strOfNums [x]).size = 1 := fun _ => rfl
      have HOD : Hid ((packV t).extract 0 m ++ strOfNums [y0] ≠ packV t) := by
        show (packV t).extract 0 m ++ strOfNums [y0] ≠ packV t
        intro e
        have e2 := congrArg bytesL e
        rw [bytesL_append, bytesL_extract, List.drop_zero, bytesL_strOfNums _ (by intro x hx; simp at hx; omega)] at e2
        have hl : (bytesL (packV t)).length = m + 1 := by rw [bytesL_length]; exact hm
        have e3 : (bytesL (packV t))[m]? = some y0 := by
          rw [← e2, List.getElem?_append_right (by rw [List.length_take]; omega), List.length_take, hl, show m - min m (m + 1) = 0 by omega]
          rfl
        rw [List.getElem?_eq_getElem (by omega), ← bytesL_at (packV t) m hmlt, hx0] at e3
        simp at e3
        exact hy3 e3.symm
      have HM2 : Hid (((packV t).extract 0 m ++ strOfNums [y0]).size ≤ maxLen) := by
        show ((packV t).extract 0 m ++ strOfNums [y0]).size ≤ maxLen
        rw [ByteArray.size_append, hs1, ByteArray.size_extract]
        unfold maxLen
        omega
      go_wp2
      go_region
      go_wp2_with fail
      refine (implUnpack _ _ HM2.out).mono ?_
      have hB3 : Below w.heap.size w (we.alloc (Obj.cells #[Value.int IntKind.u8 y0] 5)).drew := (hB2.alloc hB2.size _).drew
      rcases unpV_two ((packV t).extract 0 m ++ strOfNums [y0]) with hu | ⟨x, hu⟩
      · rw [hu]
        clear hu
        rintro e wf ⟨rfl, hb5⟩
        go_wp2
        go_ret
        exact ⟨rfl, bt hB3 hb5⟩
      · have hxt : x ≠ t := by
          intro e
          have := (unpV_strict hu).2
          rw [e] at this
          exact HOD.out this.symm
        have hxf := neF hxt
        rw [hu]
        clear hu
        rintro e wf ⟨rfl, hb5⟩
        go_wp2
        go_ret
        exact ⟨rfl, bt hB3 hb5⟩
end Go.Proofs.Ytadidkkpokpocab
