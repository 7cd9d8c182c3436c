import Derived.Test.YtdnajdobmlgmiaaBA
namespace Go.Proofs.Ytdnajdobmlgmiaa
open Go.RowKit
set_option linter.unusedVariables false

/-! Bits and bytes. -/
theorem bytesB_chunkN (bs : List Int) (h : ∀ b ∈ bs, b = 0 ∨ b = 1) (m : Nat) (hm : 8 * m ≤ bs.length) : bytesB (chunkN bs m) = bs.take (8 * m) := by
  induction m with
  | zero => rfl
  | succ m ih =>
    have hl : ((bs.drop (8 * m)).take 8).length = 8 := by rw [List.length_take, List.length_drop]; omega
    have h8 : bitsL 8 (numB ((bs.drop (8 * m)).take 8)) = (bs.drop (8 * m)).take 8 := by
      have := bitsL_numB ((bs.drop (8 * m)).take 8) (fun b hb => h b (List.mem_of_mem_drop (List.mem_of_mem_take hb)))
      rw [hl] at this
      exact this
    rw [chunkN, bytesB_snoc, ih (by omega), h8, show 8 * (m + 1) = 8 * m + 8 by omega, List.take_add]
theorem bytesB_packL (l : List Int) : bytesB (packL l) = padB (packB l) := by
  unfold packL
  have h1 := padB_length (packB l)
  rw [bytesB_chunkN _ (padB_bit _ (packB_bit l)) _ (by omega), List.take_of_length_le (by omega)]
theorem chunkN_bytesB (l : List Int) (h : ∀ x ∈ l, 0 ≤ x ∧ x ≤ 255) (m : Nat) (hm : m ≤ l.length) : chunkN (bytesB l) m = l.take m := by
  induction m with
  | zero => rfl
  | succ m ih =>
    have hml : m < l.length := by omega
    have hx := h l[m] (List.getElem_mem hml)
    have e : ((bytesB l).drop (8 * m)).take 8 = bitsL 8 l[m] := by
      have e1 : bytesB l = bytesB (l.take m) ++ (bitsL 8 l[m] ++ bytesB (l.drop (m + 1))) := by
        have : l = l.take m ++ (l[m] :: l.drop (m + 1)) := by
          rw [← List.drop_eq_getElem_cons hml, List.take_append_drop]
        have e2 : bytesB l = bytesB (l.take m ++ (l[m] :: l.drop (m + 1))) := by rw [← this]
        refine e2.trans ?_
        unfold bytesB
        rw [List.flatMap_append, List.flatMap_cons]
      have e3 : (bytesB (l.take m)).length = 8 * m := by rw [bytesB_length, List.length_take]; omega
      rw [e1, List.drop_append_of_le_length (by omega), List.drop_of_length_le (by omega), List.nil_append, List.take_append_of_le_length (by rw [bitsL_length]; omega), List.take_of_length_le (by rw [bitsL_length]; omega)]
    rw [chunkN, ih (by omega), e, numB_bitsL 8 _ hx.1 (by omega), List.take_succ_eq_append_getElem hml]

/-! Signs in bits. -/
theorem sgnBits_a {k : Int} (h : k < 24) : sgnBits k = bitsL 5 k := by unfold sgnBits; rw [if_pos h]
theorem sgnBits_b {k : Int} (h : ¬ k < 24) : sgnBits k = bitsL 7 (96 + k - 24) := by unfold sgnBits; rw [if_neg h]
theorem bitsL7_five (n : Int) : (bitsL 7 n).take 5 = bitsL 5 (n / 2 / 2) := by simp [bitsL]
theorem stepU_sgn (k : Int) (h0 : 0 ≤ k) (h1 : k < 39) (t : List Int) : stepU (sgnBits k ++ t) = some (k, (sgnBits k).length) := by
  unfold stepU
  by_cases h : k < 24
  · have e5 : (bitsL 5 k ++ t).take 5 = bitsL 5 k := by
      rw [List.take_append_of_le_length (by rw [bitsL_length]; omega), List.take_of_length_le (by rw [bitsL_length]; omega)]
    rw [sgnBits_a h, if_neg (by rw [List.length_append, bitsL_length]; omega), e5, numB_bitsL 5 k h0 (by omega), if_pos h, bitsL_length]
  · have e7 : (bitsL 7 (96 + k - 24) ++ t).take 7 = bitsL 7 (96 + k - 24) := by
      rw [List.take_append_of_le_length (by rw [bitsL_length]; omega), List.take_of_length_le (by rw [bitsL_length]; omega)]
    have e5 : (bitsL 7 (96 + k - 24) ++ t).take 5 = bitsL 5 ((96 + k - 24) / 2 / 2) := by
      rw [List.take_append_of_le_length (by rw [bitsL_length]; omega), bitsL7_five]
    rw [sgnBits_b h, if_neg (by rw [List.length_append, bitsL_length]; omega), e5, numB_bitsL 5 _ (by omega) (by omega), if_neg (by omega), if_neg (by rw [List.length_append, bitsL_length]; omega), e7, numB_bitsL 7 _ (by omega) (by omega), if_neg (by omega), bitsL_length]
    congr 2
    omega
theorem stepU_back {bs : List Int} (hb : ∀ b ∈ bs, b = 0 ∨ b = 1) {k : Int} {n : Nat} (h : stepU bs = some (k, n)) : 0 ≤ k ∧ k < 39 ∧ bs.take n = sgnBits k ∧ n = (sgnBits k).length ∧ n ≤ bs.length := by
  unfold stepU at h
  by_cases h5 : bs.length < 5
  · rw [if_pos h5] at h; simp at h
  · rw [if_neg h5] at h
    have l5 : (bs.take 5).length = 5 := by rw [List.length_take]; omega
    have b5 := numB_bd (bs.take 5) (fun b hb' => hb b (List.mem_of_mem_take hb'))
    have i5 := bitsL_numB (bs.take 5) (fun b hb' => hb b (List.mem_of_mem_take hb'))
    rw [l5] at b5 i5
    by_cases h24 : numB (bs.take 5) < 24
    · rw [if_pos h24] at h
      simp at h
      obtain ⟨rfl, rfl⟩ := h
      rw [sgnBits_a h24, bitsL_length, i5]
      exact ⟨b5.1, by omega, rfl, rfl, by omega⟩
    · rw [if_neg h24] at h
      by_cases h7 : bs.length < 7
      · rw [if_pos h7] at h; simp at h
      · rw [if_neg h7] at h
        have l7 : (bs.take 7).length = 7 := by rw [List.length_take]; omega
        have b7 := numB_bd (bs.take 7) (fun b hb' => hb b (List.mem_of_mem_take hb'))
        have i7 := bitsL_numB (bs.take 7) (fun b hb' => hb b (List.mem_of_mem_take hb'))
        rw [l7] at b7 i7
        have h96 : 96 ≤ numB (bs.take 7) := by
          have e : (bs.take 7).take 5 = bs.take 5 := by rw [List.take_take]; rfl
          have e2 : (bitsL 7 (numB (bs.take 7))).take 5 = bs.take 5 := by rw [i7, e]
          rw [bitsL7_five] at e2
          have e3 := numB_bitsL 5 (numB (bs.take 7) / 2 / 2) (by omega) (by omega)
          rw [e2] at e3
          omega
        by_cases h39 : 39 ≤ numB (bs.take 7) - 96 + 24
        · rw [if_pos h39] at h; simp at h
        · rw [if_neg h39] at h
          simp at h
          obtain ⟨rfl, rfl⟩ := h
          rw [sgnBits_b (by omega), bitsL_length, show 96 + (numB (bs.take 7) - 96 + 24) - 24 = numB (bs.take 7) by omega, i7]
          exact ⟨by omega, by omega, rfl, rfl, by omega⟩

/-! Words in bits. -/
def allS (l : List Int) : Prop := ∀ c ∈ l, 0 ≤ sgn c
theorem packB_cons (c : Int) (l : List Int) : packB (c :: l) = sgnBits (sgn c) ++ packB l := by simp [packB]
theorem packB_append (a b : List Int) : packB (a ++ b) = packB a ++ packB b := by simp [packB]
theorem unp_pack (l : List Int) (h : allS l) (r : List Int) (hr : stepU r = none) : unp (packB l ++ r) = (l, r) := by
  induction l with
  | nil => exact unp_none hr
  | cons c t ih =>
    have hc := h c (by simp)
    have hs := stepU_sgn (sgn c) hc (sgn_lt c) (packB t ++ r)
    have e : packB (c :: t) ++ r = sgnBits (sgn c) ++ (packB t ++ r) := by rw [packB_cons, List.append_assoc]
    rw [e, unp_some hs, List.drop_left, ih (fun x hx => h x (by simp [hx])), sgn_back hc]
theorem unp_back (bs : List Int) (hb : ∀ b ∈ bs, b = 0 ∨ b = 1) : allS (unp bs).1 ∧ bs = packB (unp bs).1 ++ (unp bs).2 ∧ stepU (unp bs).2 = none := by
  have key : ∀ (f : Nat) (bs : List Int), bs.length ≤ f → (∀ b ∈ bs, b = 0 ∨ b = 1) → allS (unp bs).1 ∧ bs = packB (unp bs).1 ++ (unp bs).2 ∧ stepU (unp bs).2 = none := by
    intro f
    induction f with
    | zero =>
      intro bs hl hb
      have : bs = [] := List.eq_nil_of_length_eq_zero (by omega)
      subst this
      exact ⟨fun c hc => by simp [unp, unpN] at hc, rfl, rfl⟩
    | succ f ih =>
      intro bs hl hb
      match hs : stepU bs with
      | none =>
        rw [unp_none hs]
        exact ⟨fun c hc => by simp at hc, rfl, hs⟩
      | some (k, n) =>
        obtain ⟨k0, k1, e1, e2, e3⟩ := stepU_back hb hs
        have hn := stepU_n hs
        obtain ⟨i1, i2, i3⟩ := ih (bs.drop n) (by rw [List.length_drop]; omega) (fun b hb' => hb b (List.mem_of_mem_drop hb'))
        rw [unp_some hs]
        have hkn : k.toNat < 39 := by omega
        have hsk : sgn (WS.getD k.toNat 0) = k := by rw [sgn_at hkn]; omega
        refine ⟨?_, ?_, i3⟩
        · intro c hc
          rcases List.mem_cons.1 hc with rfl | hc
          · rw [hsk]; exact k0
          · exact i1 c hc
        · show bs = packB (WS.getD k.toNat 0 :: (unp (bs.drop n)).1) ++ (unp (bs.drop n)).2
          rw [packB_cons, hsk, List.append_assoc, ← i2, ← e1, List.take_append_drop]
  exact key bs.length bs (Nat.le_refl _) hb
theorem stepU_ones (p : Nat) (h : p < 8) : stepU (List.replicate p 1) = none := by
  rcases (by omega : p = 0 ∨ p = 1 ∨ p = 2 ∨ p = 3 ∨ p = 4 ∨ p = 5 ∨ p = 6 ∨ p = 7) with rfl | rfl | rfl | rfl | rfl | rfl | rfl | rfl <;> decide
theorem unp_pad (l : List Int) (h : allS l) : unp (padB (packB l)) = (l, List.replicate ((8 - (packB l).length % 8) % 8) 1) := by
  unfold padB
  exact unp_pack l h _ (stepU_ones _ (by omega))

/-! Words in bytes. -/
theorem packL_len (l : List Int) : (packL l).length = ((packB l).length + 7) / 8 := by
  unfold packL
  rw [chunkN_length]
  unfold padB
  rw [List.length_append, List.length_replicate]
  omega
theorem packL_le (l : List Int) : (packL l).length ≤ l.length := by
  rw [packL_len]
  have := packB_length l
  omega
/-- A word is unpacked from its bits. -/
theorem unpL_pack (l : List Int) (h : allS l) (hl : l.length ≤ 16) : unpL (packL l) = some l := by
  unfold unpL
  rw [if_neg (by have := packL_le l; omega), bytesB_packL, unp_pad l h]
  have : unpOk (l, List.replicate ((8 - (packB l).length % 8) % 8) 1) = true := by
    unfold unpOk
    simp [hl]
    omega
  rw [if_pos this]
/-- A word is packed in one way. -/
theorem unpL_strict (b l : List Int) (hb : ∀ x ∈ b, 0 ≤ x ∧ x ≤ 255) (h : unpL b = some l) : allS l ∧ l.length ≤ 16 ∧ packL l = b := by
  unfold unpL at h
  by_cases h16 : 16 < b.length
  · rw [if_pos h16] at h; simp at h
  · rw [if_neg h16] at h
    by_cases hok : unpOk (unp (bytesB b)) = true
    · rw [if_pos hok] at h
      simp at h
      obtain ⟨i1, i2, i3⟩ := unp_back (bytesB b) (bytesB_bit b)
      unfold unpOk at hok
      rw [Bool.and_eq_true, Bool.and_eq_true, List.all_eq_true] at hok
      obtain ⟨⟨k1, k2⟩, k3⟩ := hok
      rw [h] at i1 i2 k3
      obtain ⟨r, hr⟩ : ∃ r, (unp (bytesB b)).2 = r := ⟨_, rfl⟩
      rw [hr] at i2 k1 k2
      simp at k2 k3
      have hrep : r = List.replicate r.length 1 := List.eq_replicate_of_mem (fun x hx => by simpa using k1 x hx)
      have hlen : (bytesB b).length = (packB l).length + r.length := by rw [i2, List.length_append]
      rw [bytesB_length] at hlen
      have hp : r.length = (8 - (packB l).length % 8) % 8 := by omega
      have hpad : padB (packB l) = bytesB b := by
        unfold padB
        rw [← hp, ← hrep, ← i2]
      refine ⟨i1, k3, ?_⟩
      unfold packL
      rw [hpad, bytesB_length, show 8 * b.length / 8 = b.length by omega, chunkN_bytesB b hb b.length (Nat.le_refl _), List.take_of_length_le (Nat.le_refl _)]
    · rw [if_neg hok] at h; simp at h
theorem packL_inj {a b : List Int} (ha : allS a) (hb : allS b) (la : a.length ≤ 16) (lb : b.length ≤ 16) (h : packL a = packL b) : a = b := by
  have h1 := unpL_pack a ha la
  rw [h, unpL_pack b hb lb] at h1
  simpa using h1.symm
theorem packL_nil {l : List Int} (h : packL l = []) : l = [] := by
  have h1 := packL_len l
  rw [h] at h1
  match l with
  | [] => rfl
  | c :: t =>
    exfalso
    rw [packB_cons, List.length_append] at h1
    have : 5 ≤ (sgnBits (sgn c)).length := by
      unfold sgnBits
      split
      · rw [bitsL_length]; omega
      · rw [bitsL_length]; omega
    simp at h1
    omega
/-- With a sign more a word is no shorter. -/
theorem packL_more (l : List Int) (c : Int) : (packL l).length ≤ (packL (l ++ [c])).length := by
  rw [packL_len, packL_len, packB_append, List.length_append]
  omega
theorem chunkN_congr (a b : List Int) (m : Nat) (h : a.take (8 * m) = b.take (8 * m)) : chunkN a m = chunkN b m := by
  induction m with
  | zero => rfl
  | succ m ih =>
    have h1 : a.take (8 * m) = b.take (8 * m) := by
      have := congrArg (List.take (8 * m)) h
      rw [List.take_take, List.take_take, Nat.min_eq_left (by omega)] at this
      exact this
    have h2 : (a.drop (8 * m)).take 8 = (b.drop (8 * m)).take 8 := by
      have := congrArg (List.drop (8 * m)) h
      rw [List.drop_take, List.drop_take, show 8 * (m + 1) - 8 * m = 8 by omega] at this
      exact this
    rw [chunkN, chunkN, ih h1, h2]
theorem chunkN_take (bs : List Int) (m k : Nat) (h : k ≤ m) : (chunkN bs m).take k = chunkN bs k := by
  induction m with
  | zero =>
    have : k = 0 := by omega
    subst this; rfl
  | succ m ih =>
    by_cases e : k = m + 1
    · subst e
      rw [List.take_of_length_le (by rw [chunkN_length]; omega)]
    · rw [chunkN, List.take_append_of_le_length (by rw [chunkN_length]; omega), ih (by omega)]
/-- Words that begin alike are packed alike, but for the last byte. -/
theorem packL_begins (a b : List Int) (n : Nat) (hn : n = (packL a).length - 1) : (packL a).length ≤ (packL (a ++ b)).length ∧ (packL (a ++ b)).take n = (packL a).take n := by
  have ha := packL_len a
  have hab := packL_len (a ++ b)
  rw [packB_append, List.length_append] at hab
  refine ⟨by omega, ?_⟩
  have h8 : 8 * n ≤ (packB a).length := by omega
  have pa := padB_length (packB a)
  have pab := padB_length (packB (a ++ b))
  rw [packB_append, List.length_append] at pab
  have e1 : (packL a).take n = chunkN (padB (packB a)) n := chunkN_take _ _ _ (by omega)
  have e2 : (packL (a ++ b)).take n = chunkN (padB (packB (a ++ b))) n := by
    refine chunkN_take _ _ _ ?_
    rw [packB_append]
    omega
  rw [e1, e2]
  apply chunkN_congr
  unfold padB
  rw [packB_append, List.append_assoc, List.take_append_of_le_length h8, List.take_append_of_le_length h8]
end Go.Proofs.Ytdnajdobmlgmiaa

namespace Go.Proofs.Ytdnajdobmlgmiaa
open Go.RowKit
set_option linter.unusedVariables false

theorem rd_first (P a : Int) (t : List Int) (h : a % P < P - 1) : rd P (a :: t) = (a % P, 1, true) := by
  match t with
  | [] => rw [rd1, if_pos h]
  | [b] => rw [rd2, if_pos h]
  | b :: c :: u => rw [rd3, if_pos h]
theorem rd_second (P a b : Int) (t : List Int) (h : ¬ a % P < P - 1) (hb : b < 128) : rd P (a :: b :: t) = (P - 1 + b, 2, true) := by
  match t with
  | [] => rw [rd2, if_neg h, if_pos hb]
  | c :: u => rw [rd3, if_neg h, if_pos hb]
theorem rd_third (P a b c : Int) (t : List Int) (h : ¬ a % P < P - 1) (hb : ¬ b < 128) (hc : c < 128) (h0 : c ≠ 0) (hn : P - 1 + (b - 128) + 128 * c ≤ 9999) : rd P (a :: b :: c :: t) = (P - 1 + (b - 128) + 128 * c, 3, true) := by
  rw [rd3, if_neg h, if_neg hb, if_neg (by omega)]

theorem numL_a {n P head : Int} (h : n < P - 1) : numL n P head = [head * P + n] := by unfold numL; rw [if_pos h]
theorem numL_b {n P head : Int} (h : ¬ n < P - 1) (h' : n - (P - 1) < 128) : numL n P head = [head * P + (P - 1), n - (P - 1)] := by unfold numL; rw [if_neg h, if_pos h']
theorem numL_c {n P head : Int} (h : ¬ n < P - 1) (h' : ¬ n - (P - 1) < 128) : numL n P head = [head * P + (P - 1), 128 + (n - (P - 1)) % 128, (n - (P - 1)) / 128] := by unfold numL; rw [if_neg h, if_neg h']
theorem numL_bd (n bits head : Int) (h : nOk n bits head) : ∀ x ∈ numL n (pw bits) head, 0 ≤ x ∧ x ≤ 255 := by
  obtain ⟨b0, b1, h0, h1, g0, g1⟩ := h
  intro x hx
  by_cases ha : n < pw bits - 1
  · rw [numL_a ha] at hx
    rcases bits_cases b0 b1 with rfl | rfl | rfl | rfl | rfl
    all_goals
      simp only [show (8 : Int) - 3 = 5 from rfl, show (8 : Int) - 4 = 4 from rfl, show (8 : Int) - 5 = 3 from rfl, show (8 : Int) - 6 = 2 from rfl, show (8 : Int) - 7 = 1 from rfl, pw1, pw2, pw3, pw4, pw5, pw6, pw7] at hx g1 ha
      simp at hx; omega
  · by_cases hb : n - (pw bits - 1) < 128
    · rw [numL_b ha hb] at hx
      rcases bits_cases b0 b1 with rfl | rfl | rfl | rfl | rfl
      all_goals
        simp only [show (8 : Int) - 3 = 5 from rfl, show (8 : Int) - 4 = 4 from rfl, show (8 : Int) - 5 = 3 from rfl, show (8 : Int) - 6 = 2 from rfl, show (8 : Int) - 7 = 1 from rfl, pw1, pw2, pw3, pw4, pw5, pw6, pw7] at hx g1 ha hb
        simp at hx; omega
    · rw [numL_c ha hb] at hx
      rcases bits_cases b0 b1 with rfl | rfl | rfl | rfl | rfl
      all_goals
        simp only [show (8 : Int) - 3 = 5 from rfl, show (8 : Int) - 4 = 4 from rfl, show (8 : Int) - 5 = 3 from rfl, show (8 : Int) - 6 = 2 from rfl, show (8 : Int) - 7 = 1 from rfl, pw1, pw2, pw3, pw4, pw5, pw6, pw7] at hx g1 ha hb
        simp at hx; omega
theorem bytesL_numS (n bits head : Int) (h : nOk n bits head) : bytesL (numS n bits head) = numL n (pw bits) head := bytesL_strOfNums _ (numL_bd n bits head h)

theorem rd_numL (n bits head : Int) (h : nOk n bits head) (t : List Int) : rd (pw bits) (numL n (pw bits) head ++ t) = (n, ((numL n (pw bits) head).length : Int), true) := by
  obtain ⟨b0, b1, h0, h1, g0, g1⟩ := h
  by_cases ha : n < pw bits - 1
  · rw [numL_a ha]
    rcases bits_cases b0 b1 with rfl | rfl | rfl | rfl | rfl
    all_goals
      simp only [show (8 : Int) - 3 = 5 from rfl, show (8 : Int) - 4 = 4 from rfl, show (8 : Int) - 5 = 3 from rfl, show (8 : Int) - 6 = 2 from rfl, show (8 : Int) - 7 = 1 from rfl, pw1, pw2, pw3, pw4, pw5, pw6, pw7] at ha g1 ⊢
      refine (rd_first _ _ _ (by omega)).trans ?_
      simp; omega
  · by_cases hb : n - (pw bits - 1) < 128
    · rw [numL_b ha hb]
      rcases bits_cases b0 b1 with rfl | rfl | rfl | rfl | rfl
      all_goals
        simp only [show (8 : Int) - 3 = 5 from rfl, show (8 : Int) - 4 = 4 from rfl, show (8 : Int) - 5 = 3 from rfl, show (8 : Int) - 6 = 2 from rfl, show (8 : Int) - 7 = 1 from rfl, pw1, pw2, pw3, pw4, pw5, pw6, pw7] at ha hb g1 ⊢
        refine (rd_second _ _ _ _ (by omega) (by omega)).trans ?_
        simp; omega
    · rw [numL_c ha hb]
      rcases bits_cases b0 b1 with rfl | rfl | rfl | rfl | rfl
      all_goals
        simp only [show (8 : Int) - 3 = 5 from rfl, show (8 : Int) - 4 = 4 from rfl, show (8 : Int) - 5 = 3 from rfl, show (8 : Int) - 6 = 2 from rfl, show (8 : Int) - 7 = 1 from rfl, pw1, pw2, pw3, pw4, pw5, pw6, pw7] at ha hb g1 ⊢
        refine (rd_third _ _ _ _ _ (by omega) (by omega) (by omega) (by omega) (by omega)).trans ?_
        simp; omega
theorem numS_size (n bits head : Int) : (numS n bits head).size = (numL n (pw bits) head).length := strOfNums_size _
theorem numL_len (n P head : Int) : 1 ≤ (numL n P head).length ∧ (numL n P head).length ≤ 3 := by
  unfold numL
  split
  · simp
  · split <;> simp
theorem numS_pos (n bits head : Int) : 0 < (numS n bits head).size := by rw [numS_size]; exact (numL_len _ _ _).1
theorem numS_le (n bits head : Int) : (numS n bits head).size ≤ 3 := by rw [numS_size]; exact (numL_len _ _ _).2
end Go.Proofs.Ytdnajdobmlgmiaa
