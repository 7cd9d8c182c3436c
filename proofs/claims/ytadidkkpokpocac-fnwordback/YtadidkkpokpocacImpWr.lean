import Derived.Test.YtadidkkpokpocacImpX
import Derived.Test.YtadidkkpokpocacNumW
namespace Go.Proofs.Ytadidkkpokpocac
open Go.RowKit
set_option linter.unusedVariables false

theorem numS_small (n head : Int) (h : n < 127) : numS n 7 head = strOfNums [head * 128 + n] := by
  unfold numS numL
  rw [pw7, if_pos (by omega)]
theorem size_strOfNums (l : List Int) (h : ∀ x ∈ l, 0 ≤ x ∧ x ≤ 255) : (strOfNums l).size = l.length := by
  rw [← bytesL_length, bytesL_strOfNums l h]
set_option maxHeartbeats 400000 in
theorem implWrite (s : ByteArray) (w : World) (hm : s.size ≤ maxLen) :
    Calls Try.prog 10 #[.string s] w fun e w' => e = .returned (.string (wrV s)) ∧ Below w.heap.size w w' := by
  have HM : Hid (s.size ≤ maxLen) := hm
  cases hw : wOk (bytesL s) with
  | false =>
    have hok := implOk s w hm
    rw [hw] at hok
    unfold wrV
    rw [if_neg (by rw [hw]; decide)]
    clear hw hm
    go_enter Try.func10, Try.ntmps10
    go_wp2_with (go_at_call 16; refine hok.mono ?_; rintro e w1 ⟨rfl, hb1⟩)
    go_ret
    exact ⟨rfl, hb1⟩
  | true =>
    have h2 := wOk_signs hw
    rw [bytesL_length] at h2
    have hz := h2.2
    have hok := implOk_yes s w hz hw
    have hpv : packV s = strOfNums (packL (bytesL s)) := by unfold packV; rw [if_pos hw]
    have HWR : Hid (wrV s = strOfNums (wrL (bytesL s))) := by show wrV s = _; unfold wrV; rw [if_pos hw]
    have hps : (packV s).size = (packL (bytesL s)).length := by rw [hpv, size_strOfNums _ (packL_bd _)]
    have hle := packL_le (bytesL s)
    rw [bytesL_length] at hle
    obtain ⟨p, hp⟩ : ∃ p, packV s = p := ⟨_, rfl⟩
    rw [hp] at hpv hps
    have hpk : ∀ w, Calls Try.prog 13 #[.string s] w fun e w' => e = .returned (.string p) ∧ Below w.heap.size w w' := by
      intro w
      have := implPack s w HM.out
      rw [hp] at this
      exact this
    have HPV : Hid (p = strOfNums (packL (bytesL s))) := hpv
    have HPS : Hid (p.size = (packL (bytesL s)).length) := hps
    have hp16 : (p.size : Int) ≤ 16 := by omega
    have hz' : (s.size : Int) ≤ 16 := by omega
    clear hpv hps hp hw h2 hm hle
    by_cases hlt : p.size < s.size
    · have hlt' : (p.size : Int) < s.size := by omega
      have HR : Hid (numS (p.size : Int) 7 1 ++ p = wrV s) := by
        show numS (p.size : Int) 7 1 ++ p = wrV s
        rw [HWR.out, numS_small _ _ (by omega)]
        unfold wrL
        rw [if_pos (by have := HPS.out; rw [bytesL_length]; omega), HPV.out, size_strOfNums _ (packL_bd _), strOfNums_append]
        congr 1
      have hns : (numS (p.size : Int) 7 1).size ≤ 3 := by rw [numS_small _ _ (by omega), size_strOfNums _ (by intro x hx; simp at hx; omega)]; simp
      go_enter Try.func10, Try.ntmps10
      go_wp2_with (first | (go_at_call 16; refine hok.mono ?_; rintro e w1 ⟨rfl, hb1⟩) | (go_at_call 13; refine (hpk _).mono ?_; rintro e w2 ⟨rfl, hb2⟩) | (go_at_call 22; refine (nw7 _ _ _ (by omega) (by omega) (by omega) (by omega)).mono ?_; rintro e w3 ⟨rfl, hb3⟩))
      go_ret
      exact ⟨ret_str HR.out, (hb1.trans (hb2.mono hb1.size)).trans (hb3.mono (Nat.le_trans hb1.size hb2.size))⟩
    · have hge : (s.size : Int) ≤ p.size := by omega
      have HR : Hid (numS (s.size : Int) 7 0 ++ s = wrV s) := by
        show numS (s.size : Int) 7 0 ++ s = wrV s
        rw [HWR.out, numS_small _ _ (by omega)]
        unfold wrL
        rw [if_neg (by have := HPS.out; rw [bytesL_length]; omega)]
        have e1 : strOfNums [0 * 128 + (s.size : Int)] ++ s = strOfNums [0 * 128 + (s.size : Int)] ++ strOfNums (bytesL s) := by rw [strOfNums_bytesL]
        rw [e1, strOfNums_append, bytesL_length, Int.zero_mul, Int.zero_add]
        rfl
      have hns : (numS (s.size : Int) 7 0).size ≤ 3 := by rw [numS_small _ _ (by omega), size_strOfNums _ (by intro x hx; simp at hx; omega)]; simp
      go_enter Try.func10, Try.ntmps10
      go_wp2_with (first | (go_at_call 16; refine hok.mono ?_; rintro e w1 ⟨rfl, hb1⟩) | (go_at_call 13; refine (hpk _).mono ?_; rintro e w2 ⟨rfl, hb2⟩) | (go_at_call 22; refine (nw7 _ _ _ (by omega) (by omega) (by omega) (by omega)).mono ?_; rintro e w3 ⟨rfl, hb3⟩))
      go_ret
      exact ⟨ret_str HR.out, (hb1.trans (hb2.mono hb1.size)).trans (hb3.mono (Nat.le_trans hb1.size hb2.size))⟩

end Go.Proofs.Ytadidkkpokpocac
