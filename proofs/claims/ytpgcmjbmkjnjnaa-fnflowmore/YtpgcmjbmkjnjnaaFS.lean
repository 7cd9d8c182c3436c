import Derived.Test.YtpgcmjbmkjnjnaaFM
import Derived.Test.YtpgcmjbmkjnjnaaBA
namespace Go.Proofs.Ytpgcmjbmkjnjnaa
open Go.RowKit
set_option linter.unusedVariables false

theorem ret_boolF {a b : Bool} (h : a = b) : Ending.returned (.bool a) = .returned (.bool b) := by rw [h]
theorem isEmptyT {s : ByteArray} (h : s.size = 0) : s.toList.isEmpty = true := by
  have : s = ⟨#[]⟩ := by
    apply ByteArray.ext
    exact Array.eq_empty_of_size_eq_zero h
  rw [this]; decide +kernel
theorem frOk_01 {k s : Int} {l : Bool} {b : ByteArray} (h : k = 0 ∨ k = 1) : frOk ⟨k, l, s, b⟩ = (strm s && decide (b.size ≤ 200)) := by unfold frOk; rw [if_pos h]
theorem frOk_3 {s : Int} {l : Bool} {b : ByteArray} : frOk ⟨3, l, s, b⟩ = (strm s && (!l && decide (b.size = 0))) := by unfold frOk; rw [if_neg (by show ¬ ((3 : Int) = 0 ∨ (3 : Int) = 1); decide), if_pos rfl]
theorem frOk_8 {s : Int} {l : Bool} {b : ByteArray} : frOk ⟨8, l, s, b⟩ = ((decide (s = 0) || strm s) && (!l && moreB b)) := by unfold frOk; rw [if_neg (by show ¬ ((8 : Int) = 0 ∨ (8 : Int) = 1); decide), if_neg (by show ¬ (8 : Int) = 3; decide), if_pos rfl]
theorem frOk_no {k s : Int} {l : Bool} {b : ByteArray} (h0 : ¬ k = 0) (h1 : ¬ k = 1) (h3 : ¬ k = 3) (h8 : ¬ k = 8) : frOk ⟨k, l, s, b⟩ = false := by
  unfold frOk
  rw [if_neg (by rintro (h | h) <;> contradiction), if_neg h3, if_neg h8]
theorem b0of_at {b : ByteArray} (h : 0 < b.size) : ((b[0]'h).toNat : Int) = b0of b := by
  rw [bytesL_at]
  unfold b0of
  rw [List.headD_eq_head?_getD, List.head?_eq_getElem?, List.getElem?_eq_getElem (by rw [bytesL_length]; exact h)]
  rfl
theorem b0of_bd (b : ByteArray) : 0 ≤ b0of b ∧ b0of b ≤ 255 := by
  unfold b0of
  cases h : bytesL b with
  | nil => decide
  | cons x t => exact bytesL_bd b x (by rw [h]; simp)

set_option maxRecDepth 100000 in
set_option maxHeartbeats 400000 in
theorem l6InF (n a b : Int) (w : World) :
    Calls Try.prog 34 #[.int .i64 n, .int .i64 a, .int .i64 b] w fun e w' => e = .returned (.bool (decide (a ≤ n) && decide (n ≤ b))) ∧ w' = w := by
  by_cases h1 : a ≤ n
  · by_cases h2 : n ≤ b
    · go_enter Try.func34, Try.ntmps34
      go_wp2
      go_ret
      exact ⟨ret_boolF (by first | (simp; done) | (simp; omega)), rfl⟩
    · have h2' : b < n := by omega
      go_enter Try.func34, Try.ntmps34
      go_wp2
      go_ret
      exact ⟨ret_boolF (by first | (simp; done) | (simp; omega)), rfl⟩
  · have h1' : n < a := by omega
    go_enter Try.func34, Try.ntmps34
    go_wp2
    go_ret
    exact ⟨ret_boolF (by first | (simp; done) | (simp; omega)), rfl⟩
theorem l6In_yes (n a b : Int) (w : World) (h : a ≤ n ∧ n ≤ b) : Calls Try.prog 34 #[.int .i64 n, .int .i64 a, .int .i64 b] w fun e w' => e = .returned (.bool true) ∧ w' = w := by
  have := l6InF n a b w
  rwa [decide_eq_true h.1, decide_eq_true h.2] at this
theorem l6In_no (n a b : Int) (w : World) (h : ¬ (a ≤ n ∧ n ≤ b)) : Calls Try.prog 34 #[.int .i64 n, .int .i64 a, .int .i64 b] w fun e w' => e = .returned (.bool false) ∧ w' = w := by
  have := l6InF n a b w
  rwa [show (decide (a ≤ n) && decide (n ≤ b)) = false by rw [← Bool.decide_and]; exact decide_eq_false h] at this

end Go.Proofs.Ytpgcmjbmkjnjnaa
