import Derived.Test.YtadidkkpokpocawImpH
import Derived.Test.YtadidkkpokpocawWMath
namespace Go.Proofs.Ytadidkkpokpocaw
open Go.RowKit Go.Shelf
set_option linter.unusedVariables false
attribute [local go_sem] Oper.semAt_some

theorem info5' : (Try.prog.info? 5).map (fun i => (i.zero, i.size, i.bytes)) = some (some (.int .u8 0), 1, 1) := by kernel_rfl
/-- Bits as numbers. -/
def qL (pre : List Bit) : List Int := pre.map (·.1)
theorem qL_length (pre : List Bit) : (qL pre).length = pre.length := by simp [qL]
theorem qL_bit (pre : List Bit) : ∀ b ∈ qL pre, b = 0 ∨ b = 1 := by
  intro b hb
  obtain ⟨q, _, rfl⟩ := List.mem_map.1 hb
  exact q.2
theorem qL_snoc (pre : List Bit) (x : Bit) : qL (pre ++ [x]) = qL pre ++ [x.1] := by simp [qL]
/-- What is full of bits, in bytes; what is left: its number, and how many bits. -/
def fullL (l : List Int) : List Int := chunkN l (l.length / 8)
def leftL (l : List Int) : List Int := l.drop (8 * (l.length / 8))
theorem leftL_length (l : List Int) : (leftL l).length = l.length % 8 := by unfold leftL; rw [List.length_drop]; omega
theorem chunkN_snoc (l : List Int) (x : Int) (m : Nat) (h : 8 * m ≤ l.length) : chunkN (l ++ [x]) m = chunkN l m := by
  apply chunkN_congr
  rw [List.take_append_of_le_length h]
theorem full_on {l : List Int} {x : Int} (h : l.length % 8 < 7) : fullL (l ++ [x]) = fullL l ∧ leftL (l ++ [x]) = leftL l ++ [x] := by
  have e : (l ++ [x]).length / 8 = l.length / 8 := by rw [List.length_append, List.length_singleton]; omega
  unfold fullL leftL
  rw [e]
  exact ⟨chunkN_snoc _ _ _ (by omega), by rw [List.drop_append_of_le_length (by omega)]⟩
theorem full_full {l : List Int} {x : Int} (h : l.length % 8 = 7) : fullL (l ++ [x]) = fullL l ++ [numB (leftL l ++ [x])] ∧ leftL (l ++ [x]) = [] := by
  have e : (l ++ [x]).length / 8 = l.length / 8 + 1 := by rw [List.length_append, List.length_singleton]; omega
  unfold fullL leftL
  rw [e]
  refine ⟨?_, List.drop_eq_nil_of_le (by rw [List.length_append, List.length_singleton]; omega)⟩
  rw [chunkN, chunkN_snoc _ _ _ (by omega), List.drop_append_of_le_length (by omega), List.take_of_length_le (by rw [List.length_append, List.length_drop, List.length_singleton]; omega)]
theorem left_bd (l : List Int) (h : ∀ b ∈ l, b = 0 ∨ b = 1) : 0 ≤ numB (leftL l) ∧ numB (leftL l) < 128 := by
  have h1 := numB_bd (leftL l) (fun b hb => h b (List.mem_of_mem_drop hb))
  have h2 : (leftL l).length ≤ 7 := by rw [leftL_length]; omega
  have h3 : (2 : Int) ^ (leftL l).length ≤ 128 := by
    generalize (leftL l).length = q at h2
    rcases (by omega : q = 0 ∨ q = 1 ∨ q = 2 ∨ q = 3 ∨ q = 4 ∨ q = 5 ∨ q = 6 ∨ q = 7) with rfl | rfl | rfl | rfl | rfl | rfl | rfl | rfl <;> decide
  omega
theorem fullL_length (l : List Int) : (fullL l).length = l.length / 8 := chunkN_length _ _
theorem codes_bd (l : List Int) (h : ∀ c ∈ l, 0 ≤ sgn c) : ∀ c ∈ l.map codeOf, 0 ≤ c.1 ∧ c.1 ≤ 255 ∧ 0 ≤ c.2 ∧ c.2 ≤ 8 := by
  intro c hc
  obtain ⟨x, hx, rfl⟩ := List.mem_map.1 hc
  have h1 := h x hx
  have h2 := sgn_lt x
  unfold codeOf
  split
  · exact ⟨h1, by omega, by omega, by omega⟩
  · exact ⟨by omega, by omega, by omega, by omega⟩
theorem qL_codes (l : List Int) : qL (codesQ (l.map codeOf)) = packB l := by
  induction l with
  | nil => rfl
  | cons c t ih =>
    have e : qL (codesQ ((c :: t).map codeOf)) = (bitsQ (codeOf c).2.toNat (codeOf c).1).map (·.1) ++ qL (codesQ (t.map codeOf)) := by simp [qL, codesQ]
    rw [e, ih, bitsQ_map, packB_cons]
    congr 1
    unfold codeOf sgnBits
    split <;> rfl
theorem sumB_codes (l : List Int) : sumB (l.map codeOf) = ((packB l).length : Int) := by
  induction l with
  | nil => rfl
  | cons c t ih =>
    rw [List.map_cons, sumB, ih, packB_cons, List.length_append]
    have : (codeOf c).2 = ((sgnBits (sgn c)).length : Int) := by
      unfold codeOf sgnBits
      split <;> rw [bitsL_length] <;> rfl
    rw [this]; omega
theorem ones_bits (f : Nat) (h : f ≤ 7) : bitsL f (pw f - 1) = List.replicate f 1 := by
  rcases (by omega : f = 0 ∨ f = 1 ∨ f = 2 ∨ f = 3 ∨ f = 4 ∨ f = 5 ∨ f = 6 ∨ f = 7) with rfl | rfl | rfl | rfl | rfl | rfl | rfl | rfl <;> decide
/-- All codes of a word: its signs', and what fills. -/
def allC (l : List Int) : List (Int × Int) := l.map codeOf ++ [(pw ((8 - sumB (l.map codeOf) % 8) % 8) - 1, (8 - sumB (l.map codeOf) % 8) % 8)]
theorem allC_bits (l : List Int) : qL (codesQ (allC l)) = padB (packB l) := by
  have e : qL (codesQ (allC l)) = qL (codesQ (l.map codeOf)) ++ (bitsQ ((8 - sumB (l.map codeOf) % 8) % 8).toNat (pw ((8 - sumB (l.map codeOf) % 8) % 8) - 1)).map (·.1) := by
    unfold allC; rw [codesQ_snoc]; simp [qL]
  rw [e, qL_codes, bitsQ_map, sumB_codes]
  unfold padB
  congr 1
  have h2 : ((8 - ((packB l).length : Int) % 8) % 8) = (((8 - (packB l).length % 8) % 8 : Nat) : Int) := by omega
  rw [h2, Int.toNat_natCast, ones_bits _ (by omega)]
theorem allC_bd (l : List Int) (h : ∀ c ∈ l, 0 ≤ sgn c) : ∀ c ∈ allC l, 0 ≤ c.1 ∧ c.1 ≤ 255 ∧ 0 ≤ c.2 ∧ c.2 ≤ 8 := by
  intro c hc
  rcases List.mem_append.1 hc with hc | hc
  · exact codes_bd l h c hc
  · simp only [List.mem_singleton] at hc
    subst hc
    rw [sumB_codes]
    have h2 : ((8 - ((packB l).length : Int) % 8) % 8) = (((8 - (packB l).length % 8) % 8 : Nat) : Int) := by omega
    rw [h2]
    generalize hf : (8 - (packB l).length % 8) % 8 = f
    have : f ≤ 7 := by omega
    rcases (by omega : f = 0 ∨ f = 1 ∨ f = 2 ∨ f = 3 ∨ f = 4 ∨ f = 5 ∨ f = 6 ∨ f = 7) with rfl | rfl | rfl | rfl | rfl | rfl | rfl | rfl <;> decide
theorem fullL_pad (l : List Int) : fullL (padB (packB l)) = packL l := rfl
end Go.Proofs.Ytadidkkpokpocaw
