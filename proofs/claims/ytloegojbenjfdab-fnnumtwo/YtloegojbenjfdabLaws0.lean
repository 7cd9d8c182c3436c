import Derived.Test.YtloegojbenjfdabMath
import Derived.Test.YtloegojbenjfdabDraw
namespace Go.Proofs.Ytloegojbenjfdab
open Go.RowKit
set_option linter.unusedVariables false
theorem bt {w a b : World} (h1 : Below w.heap.size w a) (h2 : Below a.heap.size a b) : Below w.heap.size w b := h1.trans (h2.mono h1.size)

/-- What a number needs, of its bits. -/
theorem len_a {n bits head : Int} (h : n < pw bits - 1) : (numS n bits head).size = 1 := by rw [numS_size, numL_a h]; rfl
theorem len_b {n bits head : Int} (h : ¬ n < pw bits - 1) (h' : n - (pw bits - 1) < 128) : (numS n bits head).size = 2 := by rw [numS_size, numL_b h h']; rfl
theorem len_c {n bits head : Int} (h : ¬ n < pw bits - 1) (h' : ¬ n - (pw bits - 1) < 128) : (numS n bits head).size = 3 := by rw [numS_size, numL_c h h']; rfl
theorem len_head (n bits head other : Int) : (numS n bits other).size = (numS n bits head).size := by
  by_cases h : n < pw bits - 1
  · rw [len_a h, len_a h]
  · by_cases h' : n - (pw bits - 1) < 128
    · rw [len_b h h', len_b h h']
    · rw [len_c h h', len_c h h']
theorem len_mono {k n bits head : Int} (h : k ≤ n) : (numS k bits head).size ≤ (numS n bits head).size := by
  have := numS_le k bits head
  have := numS_pos n bits head
  by_cases h1 : k < pw bits - 1
  · rw [len_a h1]; omega
  · by_cases h2 : k - (pw bits - 1) < 128
    · rw [len_b h1 h2]
      by_cases h3 : n - (pw bits - 1) < 128
      · rw [len_b (by omega) h3]; omega
      · rw [len_c (by omega) h3]; omega
    · rw [len_c h1 h2, len_c (by omega) (by omega)]; omega
theorem pw_up {bits : Int} (h0 : 0 ≤ bits) : pw (bits + 1) = 2 * pw bits := by
  have := pw_succ bits.toNat
  rwa [show ((bits.toNat : Nat) : Int) = bits by omega] at this
theorem len_bits {n bits head : Int} (h0 : 0 ≤ bits) : (numS n (bits + 1) 0).size ≤ (numS n bits head).size := by
  have hp := pw_up h0
  have hp0 := pw_pos bits
  have := numS_le n (bits + 1) 0
  have := numS_pos n bits head
  by_cases h1 : n < pw (bits + 1) - 1
  · rw [len_a h1]; omega
  · by_cases h2 : n - (pw (bits + 1) - 1) < 128
    · rw [len_b h1 h2]
      by_cases h3 : n - (pw bits - 1) < 128
      · rw [len_b (by omega) h3]; omega
      · rw [len_c (by omega) h3]; omega
    · rw [len_c h1 h2, len_c (by omega) (by omega)]; omega

/-- Behind its first byte a number is the same, whatever is ahead. -/
theorem tail_head (n bits head other : Int) (h : nOk n bits head) (h' : nOk n bits other) (k : Nat) : (numS n bits other).extract 1 k = (numS n bits head).extract 1 k := by
  apply bytesL_inj
  rw [bytesL_extract, bytesL_extract, bytesL_numS _ _ _ h, bytesL_numS _ _ _ h']
  by_cases h1 : n < pw bits - 1
  · rw [numL_a h1, numL_a h1]
    match k with
    | 0 => rfl
    | k + 1 => simp
  · by_cases h2 : n - (pw bits - 1) < 128
    · rw [numL_b h1 h2, numL_b h1 h2]
      match k with
      | 0 => rfl
      | k + 1 => simp
    · rw [numL_c h1 h2, numL_c h1 h2]
      match k with
      | 0 => rfl
      | k + 1 => simp
theorem head_ne {n bits head other : Int} (h : nOk n bits head) (h' : nOk n bits other) (hne : other ≠ head) : numS n bits other ≠ numS n bits head := by
  intro e
  have e2 : numL n (pw bits) other = numL n (pw bits) head := by rw [← bytesL_numS _ _ _ h, ← bytesL_numS _ _ _ h', e]
  apply hne
  have hp := pw_pos bits
  by_cases h1 : n < pw bits - 1
  · rw [numL_a h1, numL_a h1] at e2
    simp at e2
    exact Int.eq_of_mul_eq_mul_right (by omega) e2
  · by_cases h2 : n - (pw bits - 1) < 128
    · rw [numL_b h1 h2, numL_b h1 h2] at e2
      simp at e2
      exact Int.eq_of_mul_eq_mul_right (by omega) e2
    · rw [numL_c h1 h2, numL_c h1 h2] at e2
      simp at e2
      exact Int.eq_of_mul_eq_mul_right (by omega) e2

/-- What is cut is no number. -/
theorem cut_none (n bits head : Int) (h : nOk n bits head) : rdV ((numS n bits head).extract 0 ((numS n bits head).size - 1)) bits = (0, 0, false) := by
  unfold rdV
  rw [if_pos ⟨h.1, h.2.1⟩, bytesL_extract, bytesL_numS _ _ _ h, List.drop_zero]
  have hm : ∀ a : Int, (a * pw bits + (pw bits - 1)) % pw bits = pw bits - 1 := by
    intro a
    have hp := pw_pos bits
    rw [Int.add_comm, Int.add_mul_emod_self_right]
    exact Int.emod_eq_of_lt (by omega) (by omega)
  by_cases h1 : n < pw bits - 1
  · rw [len_a h1, numL_a h1]; rfl
  · by_cases h2 : n - (pw bits - 1) < 128
    · rw [len_b h1 h2, numL_b h1 h2]
      show rd (pw bits) [head * pw bits + (pw bits - 1)] = _
      rw [rd1, if_neg (by rw [hm]; omega)]
    · rw [len_c h1 h2, numL_c h1 h2]
      show rd (pw bits) [head * pw bits + (pw bits - 1), 128 + (n - (pw bits - 1)) % 128] = _
      rw [rd2, if_neg (by rw [hm]; omega), if_neg (by omega)]
theorem none_none (bits : Int) : rdV ⟨#[]⟩ bits = (0, 0, false) := by
  unfold rdV
  split <;> rfl
theorem eight_none (s : ByteArray) : rdV s 8 = (0, 0, false) := rfl

end Go.Proofs.Ytloegojbenjfdab
