import Derived.Test.YtadidkkpokpocabWSpec2
import Derived.Test.YtadidkkpokpocabWMath
namespace Go.Proofs.Ytadidkkpokpocab
open Go.RowKit
set_option linter.unusedVariables false
theorem bt {w a b : World} (h1 : Below w.heap.size w a) (h2 : Below a.heap.size a b) : Below w.heap.size w b := h1.trans (h2.mono h1.size)

theorem wOk_mk {l : List Int} (h : allS l) (hl : l.length ≤ 16) : wOk l = true := by
  unfold wOk
  rw [Bool.and_eq_true, List.all_eq_true]
  exact ⟨fun c hc => by simpa using h c hc, by simpa using hl⟩
theorem wOk_allS {l : List Int} (h : wOk l = true) : allS l ∧ l.length ≤ 16 := wOk_signs h
theorem packV_ok {s : ByteArray} (h : wOk (bytesL s) = true) : packV s = strOfNums (packL (bytesL s)) := by unfold packV; rw [if_pos h]
theorem packV_bad {s : ByteArray} (h : wOk (bytesL s) = false) : packV s = ⟨#[]⟩ := by unfold packV; rw [if_neg (by simp [h])]
theorem bytesL_packV {s : ByteArray} (h : wOk (bytesL s) = true) : bytesL (packV s) = packL (bytesL s) := by rw [packV_ok h, bytesL_strOfNums _ (packL_bd _)]
theorem bytesL_none : bytesL ⟨#[]⟩ = [] := rfl
theorem unpV_some {b : ByteArray} {o : List Int} (h : unpL (bytesL b) = some o) : unpV b = (strOfNums o, true) := by unfold unpV; rw [h]
theorem unpV_none {b : ByteArray} (h : unpL (bytesL b) = none) : unpV b = (⟨#[]⟩, false) := by unfold unpV; rw [h]
theorem unpV_pack {s : ByteArray} (h : wOk (bytesL s) = true) : unpV (packV s) = (s, true) := by
  have h2 := wOk_allS h
  rw [unpV_some (o := bytesL s) (by rw [bytesL_packV h]; exact unpL_pack _ h2.1 h2.2), strOfNums_bytesL]
theorem allS_bd {l : List Int} (h : allS l) : ∀ x ∈ l, 0 ≤ x ∧ x ≤ 255 := by
  intro x hx
  have h1 := h x hx
  have h2 := sgn_back h1
  have h3 := sgn_lt x
  have h4 : (sgn x).toNat < WS.length := by rw [WS_length]; omega
  rw [← h2]
  refine WS_bd _ ?_
  simp [List.getD, h4]
theorem unpV_strict {b x : ByteArray} (h : unpV b = (x, true)) : wOk (bytesL x) = true ∧ packV x = b := by
  unfold unpV at h
  match hu : unpL (bytesL b) with
  | none => rw [hu] at h; simp at h
  | some o =>
    rw [hu] at h
    simp at h
    obtain ⟨h1, h2, h3⟩ := unpL_strict (bytesL b) o (bytesL_bd b) hu
    have ho : bytesL x = o := by rw [← h, bytesL_strOfNums _ (allS_bd h1)]
    have hok : wOk (bytesL x) = true := by rw [ho]; exact wOk_mk h1 h2
    refine ⟨hok, ?_⟩
    rw [packV_ok hok, ho, h3, strOfNums_bytesL]
theorem unpV_two (b : ByteArray) : unpV b = (⟨#[]⟩, false) ∨ ∃ x, unpV b = (x, true) := by
  unfold unpV
  match unpL (bytesL b) with
  | none => exact .inl rfl
  | some o => exact .inr ⟨_, rfl⟩

/-! Words in bytes, with how long they are. -/
theorem wrV_ok {s : ByteArray} (h : wOk (bytesL s) = true) : wrV s = strOfNums (wrL (bytesL s)) := by unfold wrV; rw [if_pos h]
theorem wrV_bad {s : ByteArray} (h : wOk (bytesL s) = false) : wrV s = ⟨#[]⟩ := by unfold wrV; rw [if_neg (by simp [h])]
theorem wrL_bd {l : List Int} (h : ∀ x ∈ l, 0 ≤ x ∧ x ≤ 255) (hl : l.length ≤ 16) : ∀ x ∈ wrL l, 0 ≤ x ∧ x ≤ 255 := by
  have hp := packL_length l hl
  intro x hx
  unfold wrL at hx
  split at hx
  · rcases List.mem_cons.1 hx with rfl | hx
    · omega
    · exact packL_bd l x hx
  · rcases List.mem_cons.1 hx with rfl | hx
    · omega
    · exact h x hx
theorem bytesL_wrV {s : ByteArray} (h : wOk (bytesL s) = true) : bytesL (wrV s) = wrL (bytesL s) := by
  rw [wrV_ok h, bytesL_strOfNums _ (wrL_bd (bytesL_bd s) (wOk_allS h).2)]
theorem wrL_len (l : List Int) : (wrL l).length = 1 + min (packL l).length l.length := by
  unfold wrL
  split
  · rw [List.length_cons]; omega
  · rw [List.length_cons]; omega
/-- Packed or not a word is read, whatever follows. -/
theorem rdWL_plain (l t : List Int) (h : allS l) (hl : l.length ≤ 16) : rdWL ((l.length : Int) :: (l ++ t)) = some (l, 1 + (l.length : Int)) := by
  have e : ((l.length : Int) % 128).toNat = l.length := by omega
  have e2 : (l.length : Int) % 128 = l.length := by omega
  rw [rdWL_cons, if_neg (by omega), if_neg (by rw [List.length_append]; omega), if_neg (by omega), e, List.take_left, if_pos (wOk_mk h hl), e2]
theorem rdWL_pack (l t : List Int) (h : allS l) (hl : l.length ≤ 16) : rdWL ((128 + (packL l).length : Int) :: (packL l ++ t)) = some (l, 1 + ((packL l).length : Int)) := by
  have hp := packL_length l hl
  have e : ((128 + (packL l).length : Int) % 128).toNat = (packL l).length := by omega
  have e2 : (128 + (packL l).length : Int) % 128 = (packL l).length := by omega
  rw [rdWL_cons, if_neg (by omega), if_neg (by rw [List.length_append]; omega), if_pos (by omega), e, List.take_left, unpL_pack l h hl, e2]
  rfl
theorem rdWL_write (l t : List Int) (h : allS l) (hl : l.length ≤ 16) : rdWL (wrL l ++ t) = some (l, ((wrL l).length : Int)) := by
  unfold wrL
  split
  · rw [List.cons_append, rdWL_pack l t h hl, List.length_cons]
    congr 2
    omega
  · rw [List.cons_append, rdWL_plain l t h hl, List.length_cons]
    congr 2
    omega
theorem rdWV_some {b : ByteArray} {o : List Int} {u : Int} (h : rdWL (bytesL b) = some (o, u)) : rdWV b = (strOfNums o, u, true) := by unfold rdWV; rw [h]
theorem rdWV_none {b : ByteArray} (h : rdWL (bytesL b) = none) : rdWV b = (⟨#[]⟩, 0, false) := by unfold rdWV; rw [h]
theorem rdWV_write {s : ByteArray} (h : wOk (bytesL s) = true) (t : ByteArray) : rdWV (wrV s ++ t) = (s, ((wrV s).size : Int), true) := by
  have h2 := wOk_allS h
  rw [rdWV_some (o := bytesL s) (u := ((wrL (bytesL s)).length : Int)) (by rw [bytesL_append, bytesL_wrV h]; exact rdWL_write _ _ h2.1 h2.2), strOfNums_bytesL, wrV_ok h, strOfNums_size]
theorem append_none (s : ByteArray) : s ++ (⟨#[]⟩ : ByteArray) = s := by apply ByteArray.ext; simp
theorem rdWV_back {s : ByteArray} (h : wOk (bytesL s) = true) : rdWV (wrV s) = (s, ((wrV s).size : Int), true) := by
  have := rdWV_write h ⟨#[]⟩
  rwa [append_none] at this
theorem rdWV_two (b : ByteArray) : rdWV b = (⟨#[]⟩, 0, false) ∨ ∃ x u, rdWV b = (x, u, true) := by
  unfold rdWV
  match rdWL (bytesL b) with
  | none => exact .inl rfl
  | some (o, u) => exact .inr ⟨_, _, rfl⟩
/-- What is read is a word. -/
theorem rdWL_strict {b l : List Int} {u : Int} (hb : ∀ x ∈ b, 0 ≤ x ∧ x ≤ 255) (h : rdWL b = some (l, u)) : allS l ∧ l.length ≤ 16 ∧ 1 ≤ u ∧ u ≤ b.length ∧ ((wrL l).length : Int) ≤ u := by
  match b, hb with
  | [], _ => simp [rdWL] at h
  | a :: t, hb =>
    have ha := hb a (by simp)
    rw [rdWL_cons] at h
    by_cases h16 : 16 < a % 128
    · rw [if_pos h16] at h; simp at h
    · rw [if_neg h16] at h
      by_cases ht : (t.length : Int) < a % 128
      · rw [if_pos ht] at h; simp at h
      · rw [if_neg ht] at h
        have hlen : (t.take (a % 128).toNat).length = (a % 128).toNat := by rw [List.length_take]; omega
        by_cases h128 : 128 ≤ a
        · rw [if_pos h128] at h
          match hu : unpL (t.take (a % 128).toNat) with
          | none => rw [hu] at h; simp at h
          | some o =>
            rw [hu] at h
            simp at h
            obtain ⟨rfl, rfl⟩ := h
            obtain ⟨h1, h2, h3⟩ := unpL_strict _ o (fun x hx => hb x (by simp [List.mem_of_mem_take hx])) hu
            refine ⟨h1, h2, by omega, by rw [List.length_cons]; omega, ?_⟩
            rw [wrL_len, h3, hlen]
            omega
        · rw [if_neg h128] at h
          by_cases hw : wOk (t.take (a % 128).toNat) = true
          · rw [if_pos hw] at h
            simp at h
            obtain ⟨rfl, rfl⟩ := h
            have h2 := wOk_allS hw
            refine ⟨h2.1, h2.2, by omega, by rw [List.length_cons]; omega, ?_⟩
            rw [wrL_len, hlen]
            omega
          · rw [if_neg hw] at h; simp at h
theorem rdWV_strict {b x : ByteArray} {u : Int} (h : rdWV b = (x, u, true)) : wOk (bytesL x) = true ∧ 1 ≤ u ∧ u ≤ (b.size : Int) ∧ ((wrV x).size : Int) ≤ u := by
  unfold rdWV at h
  match hu : rdWL (bytesL b) with
  | none => rw [hu] at h; simp at h
  | some (o, v) =>
    rw [hu] at h
    simp at h
    obtain ⟨h0, rfl⟩ := h
    obtain ⟨h1, h2, h3, h4, h5⟩ := rdWL_strict (bytesL_bd b) hu
    have ho : bytesL x = o := by rw [← h0, bytesL_strOfNums _ (allS_bd h1)]
    have hok : wOk (bytesL x) = true := by rw [ho]; exact wOk_mk h1 h2
    rw [bytesL_length] at h4
    refine ⟨hok, h3, h4, ?_⟩
    rw [wrV_ok hok, strOfNums_size, ho]
    exact h5
/-- A word of which bytes lack is none. -/
theorem rdWL_lack (l : List Int) (h : allS l) (hl : l.length ≤ 16) (k : Nat) (hk : k < (wrL l).length) : rdWL ((wrL l).take k) = none := by
  match k with
  | 0 => rfl
  | k + 1 =>
    have hp := packL_length l hl
    unfold wrL at hk ⊢
    split at hk
    · rename_i hc
      rw [if_pos hc, List.take_succ_cons, rdWL_cons, if_neg (by omega), if_pos]
      rw [List.length_cons] at hk
      rw [List.length_take]
      omega
    · rename_i hc
      rw [if_neg hc, List.take_succ_cons, rdWL_cons, if_neg (by omega), if_pos]
      rw [List.length_cons] at hk
      rw [List.length_take]
      omega
theorem rdWV_lack {s : ByteArray} (h : wOk (bytesL s) = true) (k : Nat) (hk : k < (wrV s).size) : rdWV ((wrV s).extract 0 k) = (⟨#[]⟩, 0, false) := by
  have h2 := wOk_allS h
  apply rdWV_none
  rw [bytesL_extract, List.drop_zero, bytesL_wrV h]
  refine rdWL_lack _ h2.1 h2.2 k ?_
  rw [← bytesL_wrV h, bytesL_length]
  exact hk
theorem wrV_pos {s : ByteArray} (h : wOk (bytesL s) = true) : 0 < (wrV s).size := by
  rw [wrV_ok h, strOfNums_size, wrL_len]; omega
end Go.Proofs.Ytadidkkpokpocab
