import Derived.Test.YtghgcobnmmommaaImpU
import Derived.Test.YtghgcobnmmommaaBC
import Derived.Test.YtghgcobnmmommaaNumW
import Derived.Test.YtghgcobnmmommaaBG
import Derived.Test.YtghgcobnmmommaaNumR
import Derived.Deep.RegionHeld3
namespace Go.Proofs.Ytghgcobnmmommaa
open Go.RowKit
set_option linter.unusedVariables false

set_option maxRecDepth 100000 in
set_option maxHeartbeats 400000 in
theorem implPack (s : ByteArray) (w : World) (hm : s.size ≤ maxLen) :
    Calls Try.prog 159 #[.string s] w fun e w' => e = .returned (.string (packV s)) ∧ Below w.heap.size w w' := by
  cases hw : wOk (bytesL s) with
  | true =>
    have h := wOk_signs hw
    rw [bytesL_length] at h
    unfold packV
    rw [if_pos hw]
    exact implPack_yes s w h.2 h.1 hw
  | false =>
    have hok := implOk s w hm
    rw [hw] at hok
    unfold packV
    rw [if_neg (by rw [hw]; decide)]
    clear hw
    go_enter Try.func159, Try.ntmps159
    go_wp2_with (go_at_call 101; refine hok.mono ?_; rintro e w1 ⟨rfl, hb1⟩)
    go_ret
    exact ⟨rfl, hb1⟩
theorem qL_bytes (l : List Int) : qL (codesQ (l.map fun c => (c, 8))) = bytesB l := by
  induction l with
  | nil => rfl
  | cons c t ih =>
    have e : qL (codesQ ((c :: t).map fun c => (c, 8))) = (bitsQ 8 c).map (·.1) ++ qL (codesQ (t.map fun c => (c, 8))) := by simp [qL, codesQ]
    have e2 : bytesB (c :: t) = bitsL 8 c ++ bytesB t := by simp [bytesB]
    rw [e, ih, bitsQ_map, e2]
/-- What the signs of bits are. -/
def decV (s : ByteArray) : ByteArray := strOfNums (unp (bytesB (bytesL s))).1
theorem signs_bd {l : List Int} (h : ∀ c ∈ l, 0 ≤ sgn c) : ∀ x ∈ l, 0 ≤ x ∧ x ≤ 255 := by
  intro x hx
  have h1 := h x hx
  have h2 := sgn_back h1
  have h3 := sgn_lt x
  have : WS.getD (sgn x).toNat 0 ∈ WS := by
    have hl : (sgn x).toNat < WS.length := by rw [WS_length]; omega
    rw [List.getD_eq_getElem?_getD, List.getElem?_eq_getElem hl]
    exact List.getElem_mem hl
  rw [h2] at this
  exact WS_bd x this
theorem bytesL_decV (s : ByteArray) : bytesL (decV s) = (unp (bytesB (bytesL s))).1 :=
  bytesL_strOfNums _ (signs_bd (unp_back _ (bytesB_bit _)).1)
theorem decV_size (s : ByteArray) (h : s.size ≤ 16) : (decV s).size ≤ 26 := by
  rw [← bytesL_length, bytesL_decV]
  have h1 := unp_left_len (bytesB (bytesL s)) (bytesB_bit _)
  have h2 := packB_len_ge (unp (bytesB (bytesL s))).1
  rw [bytesB_length, bytesL_length] at h1
  omega
theorem unpV_dec (s : ByteArray) (h : s.size ≤ 16) : unpV s = if packV (decV s) = s then (decV s, true) else (⟨#[]⟩, false) := by
  have hbd := bytesL_bd s
  by_cases hp : packV (decV s) = s
  · rw [if_pos hp]
    cases hw : wOk (bytesL (decV s)) with
    | true =>
      have h2 := wOk_signs hw
      have e0 : packV (decV s) = strOfNums (packL (bytesL (decV s))) := by unfold packV; rw [if_pos hw]
      have e : bytesL s = packL (bytesL (decV s)) := (congrArg bytesL (hp.symm.trans e0)).trans (bytesL_strOfNums _ (packL_bd _))
      unfold unpV
      rw [e, unpL_pack _ h2.1 h2.2]
      show (strOfNums (bytesL (decV s)), true) = (decV s, true)
      rw [strOfNums_bytesL]
    | false =>
      exfalso
      have hs : s = ⟨#[]⟩ := by rw [← hp]; unfold packV; rw [if_neg (by rw [hw]; decide)]
      have : wOk (bytesL (decV s)) = true := by
        rw [bytesL_decV, hs]
        rfl
      rw [this] at hw
      exact absurd hw (by decide)
  · rw [if_neg hp]
    unfold unpV
    match hu : unpL (bytesL s) with
    | none => rfl
    | some o =>
      exfalso
      apply hp
      obtain ⟨h1, h2, h3⟩ := unpL_strict _ _ hbd hu
      have ho : o = (unp (bytesB (bytesL s))).1 := by
        unfold unpL at hu
        rw [if_neg (by rw [bytesL_length]; omega)] at hu
        split at hu
        · injection hu with hu; exact hu.symm
        · cases hu
      have e : bytesL (decV s) = o := by rw [bytesL_decV, ho]
      have hw : wOk (bytesL (decV s)) = true := by
        rw [e]
        unfold wOk
        rw [show (o.all fun c => decide (0 ≤ sgn c)) = true by rw [List.all_eq_true]; intro x hx; simpa using h1 x hx]
        simpa using h2
      unfold packV
      rw [if_pos hw, e, h3, strOfNums_bytesL]
theorem unpV_big (s : ByteArray) (h : ¬ s.size ≤ 16) : unpV s = (⟨#[]⟩, false) := by
  unfold unpV unpL
  rw [if_pos (by rw [bytesL_length]; omega)]
end Go.Proofs.Ytghgcobnmmommaa

namespace Go.Proofs.Ytghgcobnmmommaa
open Go.RowKit
set_option linter.unusedVariables false

theorem numS_small (n head : Int) (h : n < 127) : numS n 7 head = strOfNums [head * 128 + n] := by
  unfold numS numL
  rw [pw7, if_pos (by omega)]
theorem size_strOfNums (l : List Int) (h : ∀ x ∈ l, 0 ≤ x ∧ x ≤ 255) : (strOfNums l).size = l.length := by
  rw [← bytesL_length, bytesL_strOfNums l h]
set_option maxRecDepth 100000 in
set_option maxHeartbeats 400000 in
theorem implWrite (s : ByteArray) (w : World) (hm : s.size ≤ maxLen) :
    Calls Try.prog 156 #[.string s] w fun e w' => e = .returned (.string (wrV s)) ∧ Below w.heap.size w w' := by
  have HM : Hid (s.size ≤ maxLen) := hm
  cases hw : wOk (bytesL s) with
  | false =>
    have hok := implOk s w hm
    rw [hw] at hok
    unfold wrV
    rw [if_neg (by rw [hw]; decide)]
    clear hw hm
    go_enter Try.func156, Try.ntmps156
    go_wp2_with (go_at_call 101; refine hok.mono ?_; rintro e w1 ⟨rfl, hb1⟩)
    go_ret
    exact ⟨rfl, hb1⟩
  | true =>
    have h2 := wOk_signs hw
    rw [bytesL_length] at h2
    have hz := h2.2
    have hok := implOk_yes s w hz hw
    have hpv : packV s = strOfNums (packL (bytesL s)) := by unfold packV; rw [if_pos hw]
    have HWR : Hid (wrV s = strOfNums (wrL (bytesL s))) := by show wrV s = _; unfold wrV; rw [if_pos hw]
    have hps : (packV s).size = (packL (bytesL s)).length := by rw [hpv, size_strOfNums _ (packL_bd _)]
    have hle := packL_le (bytesL s)
    rw [bytesL_length] at hle
    obtain ⟨p, hp⟩ : ∃ p, packV s = p := ⟨_, rfl⟩
    rw [hp] at hpv hps
    have hpk : ∀ w, Calls Try.prog 159 #[.string s] w fun e w' => e = .returned (.string p) ∧ Below w.heap.size w w' := by
      intro w
      have := implPack s w HM.out
      rw [hp] at this
      exact this
    have HPV : Hid (p = strOfNums (packL (bytesL s))) := hpv
    have HPS : Hid (p.size = (packL (bytesL s)).length) := hps
    have hp16 : (p.size : Int) ≤ 16 := by omega
    have hz' : (s.size : Int) ≤ 16 := by omega
    clear hpv hps hp hw h2 hm hle
    by_cases hlt : p.size < s.size
    · have hlt' : (p.size : Int) < s.size := by omega
      have HR : Hid (numS (p.size : Int) 7 1 ++ p = wrV s) := by
        show numS (p.size : Int) 7 1 ++ p = wrV s
        rw [HWR.out, numS_small _ _ (by omega)]
        unfold wrL
        rw [if_pos (by have := HPS.out; rw [bytesL_length]; omega), HPV.out, size_strOfNums _ (packL_bd _), strOfNums_append]
        congr 1
      have hns : (numS (p.size : Int) 7 1).size ≤ 3 := by rw [numS_small _ _ (by omega), size_strOfNums _ (by intro x hx; simp at hx; omega)]; simp
      go_enter Try.func156, Try.ntmps156
      go_wp2_with (first | (go_at_call 101; refine hok.mono ?_; rintro e w1 ⟨rfl, hb1⟩) | (go_at_call 159; refine (hpk _).mono ?_; rintro e w2 ⟨rfl, hb2⟩) | (go_at_call 155; refine (nw7 _ _ _ (by omega) (by omega) (by omega) (by omega)).mono ?_; rintro e w3 ⟨rfl, hb3⟩))
      go_ret
      exact ⟨ret_str HR.out, (hb1.trans (hb2.mono hb1.size)).trans (hb3.mono (Nat.le_trans hb1.size hb2.size))⟩
    · have hge : (s.size : Int) ≤ p.size := by omega
      have HR : Hid (numS (s.size : Int) 7 0 ++ s = wrV s) := by
        show numS (s.size : Int) 7 0 ++ s = wrV s
        rw [HWR.out, numS_small _ _ (by omega)]
        unfold wrL
        rw [if_neg (by have := HPS.out; rw [bytesL_length]; omega)]
        have e1 : strOfNums [0 * 128 + (s.size : Int)] ++ s = strOfNums [0 * 128 + (s.size : Int)] ++ strOfNums (bytesL s) := by rw [strOfNums_bytesL]
        rw [e1, strOfNums_append, bytesL_length, Int.zero_mul, Int.zero_add]
        rfl
      have hns : (numS (s.size : Int) 7 0).size ≤ 3 := by rw [numS_small _ _ (by omega), size_strOfNums _ (by intro x hx; simp at hx; omega)]; simp
      go_enter Try.func156, Try.ntmps156
      go_wp2_with (first | (go_at_call 101; refine hok.mono ?_; rintro e w1 ⟨rfl, hb1⟩) | (go_at_call 159; refine (hpk _).mono ?_; rintro e w2 ⟨rfl, hb2⟩) | (go_at_call 155; refine (nw7 _ _ _ (by omega) (by omega) (by omega) (by omega)).mono ?_; rintro e w3 ⟨rfl, hb3⟩))
      go_ret
      exact ⟨ret_str HR.out, (hb1.trans (hb2.mono hb1.size)).trans (hb3.mono (Nat.le_trans hb1.size hb2.size))⟩

end Go.Proofs.Ytghgcobnmmommaa

namespace Go.Proofs.Ytghgcobnmmommaa
open Go.RowKit
set_option linter.unusedVariables false

end Go.Proofs.Ytghgcobnmmommaa

namespace Go.Proofs.Ytghgcobnmmommaa
end Go.Proofs.Ytghgcobnmmommaa
