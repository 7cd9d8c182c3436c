import Derived.Test.YtadidkkpokpocabWMath
namespace Go.Proofs.Ytadidkkpokpocab
open Go.RowKit
set_option linter.unusedVariables false

theorem stepU_short {l : List Int} (h : l.length < 5) : stepU l = none := by unfold stepU; rw [if_pos h]
theorem stepU_low {l : List Int} (h : 5 ≤ l.length) (hs : stepU l = none) : 24 ≤ numB (l.take 5) := by
  unfold stepU at hs
  rw [if_neg (by omega)] at hs
  by_cases h24 : numB (l.take 5) < 24
  · rw [if_pos h24] at hs; simp at hs
  · omega
theorem stepU_on {l : List Int} (h : l.length < 7) (h5 : 5 ≤ l.length → 24 ≤ numB (l.take 5)) : stepU l = none := by
  unfold stepU
  by_cases hl : l.length < 5
  · rw [if_pos hl]
  · rw [if_neg hl, if_neg (by have := h5 (by omega); omega), if_pos h]
theorem take_snoc5 {h : List Int} {x : Int} (hl : 5 ≤ h.length) : (h ++ [x]).take 5 = h.take 5 := List.take_append_of_le_length hl
theorem numB_app (a b : List Int) : numB (a ++ b) = numB a * 2 ^ b.length + numB b := by
  revert a
  refine rev_ind (P := fun b => ∀ a, numB (a ++ b) = numB a * 2 ^ b.length + numB b) ?_ ?_ b
  · intro a; simp [numB]
  · intro l c ih a
    rw [← List.append_assoc, numB_snoc, ih a, numB_snoc, List.length_append, List.length_singleton, Int.pow_succ]
    have : numB a * (2 ^ l.length * 2) = 2 * (numB a * 2 ^ l.length) := by rw [← Int.mul_assoc, Int.mul_comm]
    omega

theorem dec_five (L : List Int) (x : Int) (hL : ∀ b ∈ L, b = 0 ∨ b = 1) (hx : x = 0 ∨ x = 1) (h : (unp L).2.length + 1 = 5) (hM : numB ((unp L).2 ++ [x]) < 24) :
    unp (L ++ [x]) = ((unp L).1 ++ [WS.getD (numB ((unp L).2 ++ [x])).toNat 0], []) := by
  obtain ⟨h1, h2, h3⟩ := unp_back L hL
  have hlen : ((unp L).2 ++ [x]).length = 5 := by rw [List.length_append, List.length_singleton]; exact h
  have hbit : ∀ b ∈ (unp L).2 ++ [x], b = 0 ∨ b = 1 := by
    intro b hb
    rcases List.mem_append.1 hb with hb | hb
    · exact hL b (by rw [h2]; exact List.mem_append_right _ hb)
    · simp at hb; subst hb; exact hx
  have hst : stepU ((unp L).2 ++ [x]) = some (numB ((unp L).2 ++ [x]), 5) := by
    unfold stepU
    rw [if_neg (by omega), List.take_of_length_le (by omega), if_pos hM]
  obtain ⟨k0, k1, k2, k3, k4⟩ := stepU_back hbit hst
  rw [List.take_of_length_le (by omega)] at k2
  have hk : ((numB ((unp L).2 ++ [x])).toNat : Int) = numB ((unp L).2 ++ [x]) := Int.toNat_of_nonneg k0
  have hs := sgn_at (k := (numB ((unp L).2 ++ [x])).toNat) (by omega)
  rw [hk] at hs
  have e : L ++ [x] = packB ((unp L).1 ++ [WS.getD (numB ((unp L).2 ++ [x])).toNat 0]) ++ [] := by
    rw [packB_snoc, hs, ← k2, List.append_nil, ← List.append_assoc, ← h2]
  have := unp_pack ((unp L).1 ++ [WS.getD (numB ((unp L).2 ++ [x])).toNat 0]) (by
    intro c hc
    rcases List.mem_append.1 hc with hc | hc
    · exact h1 c hc
    · simp only [List.mem_singleton] at hc; subst hc; rw [hs]; exact k0) [] (stepU_short (by simp))
  rw [← e] at this
  exact this
theorem dec_on (L : List Int) (x : Int) (hL : ∀ b ∈ L, b = 0 ∨ b = 1) (hx : x = 0 ∨ x = 1) (h : (unp L).2.length + 1 ≤ 6) (hM : (unp L).2.length + 1 = 5 → 24 ≤ numB ((unp L).2 ++ [x])) :
    unp (L ++ [x]) = ((unp L).1, (unp L).2 ++ [x]) := by
  obtain ⟨h1, h2, h3⟩ := unp_back L hL
  have e : L ++ [x] = packB (unp L).1 ++ ((unp L).2 ++ [x]) := by rw [← List.append_assoc, ← h2]
  have := unp_pack (unp L).1 h1 ((unp L).2 ++ [x]) (stepU_on (by rw [List.length_append, List.length_singleton]; omega) (fun h5 => by
    rw [List.length_append, List.length_singleton] at h5
    by_cases h4 : 5 ≤ (unp L).2.length
    · rw [take_snoc5 h4]; exact stepU_low h4 h3
    · rw [List.take_of_length_le (by rw [List.length_append, List.length_singleton]; omega)]; exact hM (by omega)))
  rw [← e] at this
  exact this
theorem dec_seven (L : List Int) (x : Int) (hL : ∀ b ∈ L, b = 0 ∨ b = 1) (hx : x = 0 ∨ x = 1) (h : (unp L).2.length + 1 = 7) :
    0 ≤ numB ((unp L).2 ++ [x]) - 96 + 24 ∧
    (numB ((unp L).2 ++ [x]) - 96 + 24 < 39 → unp (L ++ [x]) = ((unp L).1 ++ [WS.getD (numB ((unp L).2 ++ [x]) - 96 + 24).toNat 0], [])) ∧
    (39 ≤ numB ((unp L).2 ++ [x]) - 96 + 24 → ∀ t, (unp (L ++ [x] ++ t)).1 = (unp L).1) := by
  obtain ⟨h1, h2, h3⟩ := unp_back L hL
  have hlen : ((unp L).2 ++ [x]).length = 7 := by rw [List.length_append, List.length_singleton]; exact h
  have hbit : ∀ b ∈ (unp L).2 ++ [x], b = 0 ∨ b = 1 := by
    intro b hb
    rcases List.mem_append.1 hb with hb | hb
    · exact hL b (by rw [h2]; exact List.mem_append_right _ hb)
    · simp at hb; subst hb; exact hx
  have h24 : 24 ≤ numB (((unp L).2 ++ [x]).take 5) := by rw [take_snoc5 (by omega)]; exact stepU_low (by omega) h3
  have hsplit : numB ((unp L).2 ++ [x]) = numB (((unp L).2 ++ [x]).take 5) * 2 ^ (((unp L).2 ++ [x]).drop 5).length + numB (((unp L).2 ++ [x]).drop 5) := by
    rw [← numB_app, List.take_append_drop]
  have hd : (((unp L).2 ++ [x]).drop 5).length = 2 := by rw [List.length_drop, hlen]
  have hd0 := (numB_bd (((unp L).2 ++ [x]).drop 5) (fun b hb => hbit b (List.mem_of_mem_drop hb))).1
  rw [hd] at hsplit
  have h96 : 96 ≤ numB ((unp L).2 ++ [x]) := by rw [hsplit]; omega
  refine ⟨by omega, ?_, ?_⟩
  · intro hlt
    have hst : stepU ((unp L).2 ++ [x]) = some (numB ((unp L).2 ++ [x]) - 96 + 24, 7) := by
      unfold stepU
      rw [if_neg (by omega), if_neg (by omega), if_neg (by omega), List.take_of_length_le (i := 7) (by omega), if_neg (by omega)]
    obtain ⟨k0, k1, k2, k3, k4⟩ := stepU_back hbit hst
    rw [List.take_of_length_le (by omega)] at k2
    have hk : ((numB ((unp L).2 ++ [x]) - 96 + 24).toNat : Int) = numB ((unp L).2 ++ [x]) - 96 + 24 := Int.toNat_of_nonneg k0
    have hs := sgn_at (k := (numB ((unp L).2 ++ [x]) - 96 + 24).toNat) (by omega)
    rw [hk] at hs
    have e : L ++ [x] = packB ((unp L).1 ++ [WS.getD (numB ((unp L).2 ++ [x]) - 96 + 24).toNat 0]) ++ [] := by
      rw [packB_snoc, hs, ← k2, List.append_nil, ← List.append_assoc, ← h2]
    have := unp_pack ((unp L).1 ++ [WS.getD (numB ((unp L).2 ++ [x]) - 96 + 24).toNat 0]) (by
      intro c hc
      rcases List.mem_append.1 hc with hc | hc
      · exact h1 c hc
      · simp only [List.mem_singleton] at hc; subst hc; rw [hs]; exact k0) [] (stepU_short (by simp))
    rw [← e] at this
    exact this
  · intro hge t
    have e : L ++ [x] ++ t = packB (unp L).1 ++ (((unp L).2 ++ [x]) ++ t) := by rw [← List.append_assoc, ← List.append_assoc, ← h2]
    have hst : stepU (((unp L).2 ++ [x]) ++ t) = none := by
      unfold stepU
      rw [if_neg (by rw [List.length_append]; omega), List.take_append_of_le_length (i := 5) (by omega), if_neg (by omega), if_neg (by rw [List.length_append]; omega), List.take_append_of_le_length (i := 7) (by omega), List.take_of_length_le (i := 7) (by omega), if_pos hge]
    have := unp_pack (unp L).1 h1 _ hst
    rw [← e] at this
    rw [this]
theorem unp_left_len (L : List Int) (hL : ∀ b ∈ L, b = 0 ∨ b = 1) : (packB (unp L).1).length + (unp L).2.length = L.length := by
  have := (unp_back L hL).2.1
  rw [← List.length_append, ← this]
theorem packB_len_ge (l : List Int) : 5 * l.length ≤ (packB l).length := by
  induction l with
  | nil => simp
  | cons c t ih =>
    rw [packB_cons, List.length_append, List.length_cons]
    have : 5 ≤ (sgnBits (sgn c)).length := by unfold sgnBits; split <;> rw [bitsL_length] <;> omega
    omega
end Go.Proofs.Ytadidkkpokpocab
