import Derived.Test.YtadidkkpokpocacWLaw0
import Derived.Test.YtadidkkpokpocacImpW1
import Derived.Test.YtadidkkpokpocacWDraw
namespace Go.Proofs.Ytadidkkpokpocac
open Go.RowKit
set_option linter.unusedVariables false

set_option maxHeartbeats 1000000 in
theorem fnPackLong_walk (a0 : Option Addr) (len0 cap0 : Nat) (z0 : List Int) (a1 : Option Addr) (len1 cap1 : Nat) (z1 : List Int) (w : World) (w0 : Row w a0 len0 cap0 z0) (w1 : Row w a1 len1 cap1 z1) :
    Calls Try.prog 7 #[.slice a0 len0 cap0, .slice a1 len1 cap1] w fun e w' => e = .returned (.bool true) ∧ Below w.heap.size w w' := by
  by_cases c0 : (1048576 : Int) < len0
  · clear w0 w1
    go_enter Try.func7, Try.ntmps7
    go_wp2
    go_ret
    exact ⟨rfl, Below.refl _ _⟩
  by_cases c1 : (1048576 : Int) < len1
  · clear w0 w1
    go_enter Try.func7, Try.ntmps7
    go_wp2
    go_ret
    exact ⟨rfl, Below.refl _ _⟩
  have R0 : Hid (Row w a0 len0 cap0 z0) := w0
  have R1 : Hid (Row w a1 len1 cap1 z1) := w1
  clear w0 w1
  go_enter Try.func7, Try.ntmps7
  go_wp2_with fail
  refine (drawWordPack _ _ _ _ _ R0.out).mono ?_
  rintro e wa ⟨t, rfl, ht, hb⟩
  have HT : Hid (t.size ≤ maxLen) := show t.size ≤ maxLen by unfold maxLen; omega
  go_wp2_with fail
  refine (implPack _ _ HT.out).mono ?_
  rintro e wb ⟨rfl, hb2⟩
  go_wp2_with fail
  refine (specPack _ _ HT.out).mono ?_
  rintro e wc ⟨rfl, hb3⟩
  have hB := bt (bt hb hb2) hb3
  clear hb hb2 hb3
  go_wp2_with fail
  refine (specWordOk _ _ HT.out).mono ?_
  obtain ⟨ok, hok⟩ : ∃ ok, wOk (bytesL t) = ok := ⟨_, rfl⟩
  have HK : Hid (wOk (bytesL t) = ok) := hok
  rw [hok]
  rintro e wd ⟨rfl, rfl⟩
  cases ok with
  | false =>
    clear hok
    go_wp2_with fail
    refine (specPack _ _ HT.out).mono ?_
    rintro e we ⟨rfl, hb4⟩
    go_wp2
    go_ret
    exact ⟨rfl, bt hB hb4⟩
  | true =>
    obtain ⟨hS, hL⟩ := wOk_allS hok
    rw [bytesL_length] at hL
    have HS : Hid (allS (bytesL t)) := hS
    have hps := packV_size t
    have HPL : Hid ((packV t).size = (packL (bytesL t)).length) := by show (packV t).size = _; rw [packV_ok hok, strOfNums_size]
    clear hok hS
    have hle : (packV t).size ≤ t.size := by rw [HPL.out]; have := packL_le (bytesL t); rw [bytesL_length] at this; exact this
    have hle' : ((packV t).size : Int) ≤ t.size := by omega
    by_cases h16 : ((t.size : Int) == 16) = true
    · go_wp2
      go_ret
      exact ⟨rfl, hB⟩
    · have h16' : ((t.size : Int) == 16) = false := by simpa using h16
      have hl15 : t.size ≤ 15 := by simp at h16; omega
      clear h16
      obtain ⟨k, hk⟩ : ∃ k : Nat, len1 % 39 = k := ⟨_, rfl⟩
      have hk39 : k < 39 := by omega
      have hki : (len1 : Int) % 39 = (k : Int) := by omega
      have hk39' : (k : Int) < 39 := by omega
      obtain ⟨c, hc⟩ : ∃ c, WS.getD k 0 = c := ⟨_, rfl⟩
      have hsl : ∀ W : World, (Instr.slice 9 (.string ⟨#[101, 116, 97, 111, 105, 110, 115, 114, 104, 108, 48, 49, 50, 51, 52, 53, 54, 55, 56, 57, 100, 99, 117, 109, 102, 112, 103, 119, 121, 98, 118, 107, 120, 106, 113, 122, 58, 47, 45]⟩) (some (.int .i64 (k : Int))) (some (.int .i64 ((k : Int) + 1))) none).run Try.prog W = .ok (.string (strOfNums [c])) W := fun W => by
        have h := run_slice_string (P := Try.prog) W 9 ⟨#[101, 116, 97, 111, 105, 110, 115, 114, 104, 108, 48, 49, 50, 51, 52, 53, 54, 55, 56, 57, 100, 99, 117, 109, 102, 112, 103, 119, 121, 98, 118, 107, 120, 106, 113, 122, 58, 47, 45]⟩ .i64 .i64 (k : Int) ((k : Int) + 1) Try.underlying9 (by omega) (by omega) (by show (k : Int) + 1 ≤ 39; omega)
        rw [show ((k : Int)).toNat = k by omega, show ((k : Int) + 1).toNat = k + 1 by omega] at h
        rw [h]
        have e : (⟨#[101, 116, 97, 111, 105, 110, 115, 114, 104, 108, 48, 49, 50, 51, 52, 53, 54, 55, 56, 57, 100, 99, 117, 109, 102, 112, 103, 119, 121, 98, 118, 107, 120, 106, 113, 122, 58, 47, 45]⟩ : ByteArray).extract k (k + 1) = strOfNums [c] := by
          apply bytesL_inj
          have hb : bytesL ⟨#[101, 116, 97, 111, 105, 110, 115, 114, 104, 108, 48, 49, 50, 51, 52, 53, 54, 55, 56, 57, 100, 99, 117, 109, 102, 112, 103, 119, 121, 98, 118, 107, 120, 106, 113, 122, 58, 47, 45]⟩ = WS := by decide
          have hkw : k < WS.length := hk39
          rw [bytesL_extract, hb, List.take_succ_eq_append_getElem hkw, List.drop_append_of_le_length (by rw [List.length_take]; omega), List.drop_of_length_le (by rw [List.length_take]; omega), List.nil_append]
          have hcx : WS[k] = c := by rw [← hc]; simp [List.getD, hkw]
          rw [hcx]
          have hbd := WS_bd c (by rw [← hcx]; exact List.getElem_mem hkw)
          rw [bytesL_strOfNums _ (by intro x hx; simp at hx; rw [hx]; exact hbd)]
        rw [e]
      have hok2 : wOk (bytesL (t ++ strOfNums [c])) = true := by
        have hkw : k < WS.length := hk39
        have hcx : WS[k] = c := by rw [← hc]; simp [List.getD, hkw]
        have hbd := WS_bd c (by rw [← hcx]; exact List.getElem_mem hkw)
        rw [bytesL_append, bytesL_strOfNums _ (by intro x hx; simp at hx; rw [hx]; exact hbd)]
        refine wOk_mk ?_ (by rw [List.length_append, bytesL_length]; simp; omega)
        intro x hx
        rcases List.mem_append.1 hx with hx | hx
        · exact HS.out x hx
        · simp at hx
          rw [hx, ← hc, sgn_at hk39]; omega
      have HGE : Hid ((packV t).size ≤ (packV (t ++ strOfNums [c])).size) := by
        show (packV t).size ≤ (packV (t ++ strOfNums [c])).size
        have hkw : k < WS.length := hk39
        have hcx : WS[k] = c := by rw [← hc]; simp [List.getD, hkw]
        have hbd := WS_bd c (by rw [← hcx]; exact List.getElem_mem hkw)
        rw [HPL.out, packV_ok hok2, strOfNums_size, bytesL_append, bytesL_strOfNums _ (by intro x hx; simp at hx; rw [hx]; exact hbd)]
        exact packL_more _ _
      have hge' : ((packV t).size : Int) ≤ (packV (t ++ strOfNums [c])).size := by have := HGE.out; omega
      have hs1 : ∀ x, (strOfNums [x]).size = 1 := fun _ => rfl
      have HM2 : Hid ((t ++ strOfNums [c]).size ≤ maxLen) := show (t ++ strOfNums [c]).size ≤ maxLen by rw [ByteArray.size_append, hs1]; unfold maxLen; omega
      clear hk hc hok2
      go_wp2_with fail
      refine (implPack _ _ HM2.out).mono ?_
      rintro e we ⟨rfl, hb4⟩
      go_wp2
      go_ret
      exact ⟨rfl, bt hB hb4⟩
end Go.Proofs.Ytadidkkpokpocac
