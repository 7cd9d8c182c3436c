import Derived.Test.YtloegojbenjfdabNumRA
namespace Go.Proofs.Ytloegojbenjfdab
open Go.RowKit
set_option linter.unusedVariables false

theorem rd_first (P a : Int) (t : List Int) (h : a % P < P - 1) : rd P (a :: t) = (a % P, 1, true) := by
  match t with
  | [] => rw [rd1, if_pos h]
  | [b] => rw [rd2, if_pos h]
  | b :: c :: u => rw [rd3, if_pos h]
theorem rd_second (P a b : Int) (t : List Int) (h : ¬ a % P < P - 1) (hb : b < 128) : rd P (a :: b :: t) = (P - 1 + b, 2, true) := by
  match t with
  | [] => rw [rd2, if_neg h, if_pos hb]
  | c :: u => rw [rd3, if_neg h, if_pos hb]
theorem rd_third (P a b c : Int) (t : List Int) (h : ¬ a % P < P - 1) (hb : ¬ b < 128) (hc : c < 128) (h0 : c ≠ 0) (hn : P - 1 + (b - 128) + 128 * c ≤ 9999) : rd P (a :: b :: c :: t) = (P - 1 + (b - 128) + 128 * c, 3, true) := by
  rw [rd3, if_neg h, if_neg hb, if_neg (by omega)]

theorem numL_a {n P head : Int} (h : n < P - 1) : numL n P head = [head * P + n] := by unfold numL; rw [if_pos h]
theorem numL_b {n P head : Int} (h : ¬ n < P - 1) (h' : n - (P - 1) < 128) : numL n P head = [head * P + (P - 1), n - (P - 1)] := by unfold numL; rw [if_neg h, if_pos h']
theorem numL_c {n P head : Int} (h : ¬ n < P - 1) (h' : ¬ n - (P - 1) < 128) : numL n P head = [head * P + (P - 1), 128 + (n - (P - 1)) % 128, (n - (P - 1)) / 128] := by unfold numL; rw [if_neg h, if_neg h']
theorem numL_bd (n bits head : Int) (h : nOk n bits head) : ∀ x ∈ numL n (pw bits) head, 0 ≤ x ∧ x ≤ 255 := by
  obtain ⟨b0, b1, h0, h1, g0, g1⟩ := h
  intro x hx
  by_cases ha : n < pw bits - 1
  · rw [numL_a ha] at hx
    rcases bits_cases b0 b1 with rfl | rfl | rfl | rfl | rfl
    all_goals
      simp only [show (8 : Int) - 3 = 5 from rfl, show (8 : Int) - 4 = 4 from rfl, show (8 : Int) - 5 = 3 from rfl, show (8 : Int) - 6 = 2 from rfl, show (8 : Int) - 7 = 1 from rfl, pw1, pw2, pw3, pw4, pw5, pw6, pw7] at hx g1 ha
      simp at hx; omega
  · by_cases hb : n - (pw bits - 1) < 128
    · rw [numL_b ha hb] at hx
      rcases bits_cases b0 b1 with rfl | rfl | rfl | rfl | rfl
      all_goals
        simp only [show (8 : Int) - 3 = 5 from rfl, show (8 : Int) - 4 = 4 from rfl, show (8 : Int) - 5 = 3 from rfl, show (8 : Int) - 6 = 2 from rfl, show (8 : Int) - 7 = 1 from rfl, pw1, pw2, pw3, pw4, pw5, pw6, pw7] at hx g1 ha hb
        simp at hx; omega
    · rw [numL_c ha hb] at hx
      rcases bits_cases b0 b1 with rfl | rfl | rfl | rfl | rfl
      all_goals
        simp only [show (8 : Int) - 3 = 5 from rfl, show (8 : Int) - 4 = 4 from rfl, show (8 : Int) - 5 = 3 from rfl, show (8 : Int) - 6 = 2 from rfl, show (8 : Int) - 7 = 1 from rfl, pw1, pw2, pw3, pw4, pw5, pw6, pw7] at hx g1 ha hb
        simp at hx; omega
theorem bytesL_numS (n bits head : Int) (h : nOk n bits head) : bytesL (numS n bits head) = numL n (pw bits) head := bytesL_strOfNums _ (numL_bd n bits head h)

theorem rd_numL (n bits head : Int) (h : nOk n bits head) (t : List Int) : rd (pw bits) (numL n (pw bits) head ++ t) = (n, ((numL n (pw bits) head).length : Int), true) := by
  obtain ⟨b0, b1, h0, h1, g0, g1⟩ := h
  by_cases ha : n < pw bits - 1
  · rw [numL_a ha]
    rcases bits_cases b0 b1 with rfl | rfl | rfl | rfl | rfl
    all_goals
      simp only [show (8 : Int) - 3 = 5 from rfl, show (8 : Int) - 4 = 4 from rfl, show (8 : Int) - 5 = 3 from rfl, show (8 : Int) - 6 = 2 from rfl, show (8 : Int) - 7 = 1 from rfl, pw1, pw2, pw3, pw4, pw5, pw6, pw7] at ha g1 ⊢
      refine (rd_first _ _ _ (by omega)).trans ?_
      simp; omega
  · by_cases hb : n - (pw bits - 1) < 128
    · rw [numL_b ha hb]
      rcases bits_cases b0 b1 with rfl | rfl | rfl | rfl | rfl
      all_goals
        simp only [show (8 : Int) - 3 = 5 from rfl, show (8 : Int) - 4 = 4 from rfl, show (8 : Int) - 5 = 3 from rfl, show (8 : Int) - 6 = 2 from rfl, show (8 : Int) - 7 = 1 from rfl, pw1, pw2, pw3, pw4, pw5, pw6, pw7] at ha hb g1 ⊢
        refine (rd_second _ _ _ _ (by omega) (by omega)).trans ?_
        simp; omega
    · rw [numL_c ha hb]
      rcases bits_cases b0 b1 with rfl | rfl | rfl | rfl | rfl
      all_goals
        simp only [show (8 : Int) - 3 = 5 from rfl, show (8 : Int) - 4 = 4 from rfl, show (8 : Int) - 5 = 3 from rfl, show (8 : Int) - 6 = 2 from rfl, show (8 : Int) - 7 = 1 from rfl, pw1, pw2, pw3, pw4, pw5, pw6, pw7] at ha hb g1 ⊢
        refine (rd_third _ _ _ _ _ (by omega) (by omega) (by omega) (by omega) (by omega)).trans ?_
        simp; omega
theorem numS_size (n bits head : Int) : (numS n bits head).size = (numL n (pw bits) head).length := strOfNums_size _
theorem numL_len (n P head : Int) : 1 ≤ (numL n P head).length ∧ (numL n P head).length ≤ 3 := by
  unfold numL
  split
  · simp
  · split <;> simp
theorem numS_pos (n bits head : Int) : 0 < (numS n bits head).size := by rw [numS_size]; exact (numL_len _ _ _).1
theorem numS_le (n bits head : Int) : (numS n bits head).size ≤ 3 := by rw [numS_size]; exact (numL_len _ _ _).2

theorem rdV_back (n bits head : Int) (h : nOk n bits head) (t : ByteArray) : rdV (numS n bits head ++ t) bits = (n, ((numS n bits head).size : Int), true) := by
  unfold rdV
  rw [if_pos ⟨h.1, h.2.1⟩, bytesL_append, bytesL_numS n bits head h, rd_numL n bits head h, numS_size]
theorem append_none (s : ByteArray) : s ++ (⟨#[]⟩ : ByteArray) = s := by apply ByteArray.ext; simp

/-- What was written is read back. -/
theorem read_back (n bits head : Int) (h : nOk n bits head) (w : World) :
    Calls Try.prog 7 #[.string (numS n bits head), .int .i64 bits] w fun e w' => e = .returned (.tuple #[.int .i64 n, .int .i64 ((numS n bits head).size : Int), .bool true]) ∧ Below w.heap.size w w' := by
  have h3 := numS_le n bits head
  refine (numRead_any (numS n bits head) bits w (by unfold maxLen; omega)).mono ?_
  rintro e w' ⟨rfl, hb⟩
  have := rdV_back n bits head h ⟨#[]⟩
  rw [append_none] at this
  rw [this]
  exact ⟨rfl, hb⟩
theorem read_back_more (n bits head : Int) (t : ByteArray) (h : nOk n bits head) (ht : t.size ≤ 100) (w : World) :
    Calls Try.prog 7 #[.string (numS n bits head ++ t), .int .i64 bits] w fun e w' => e = .returned (.tuple #[.int .i64 n, .int .i64 ((numS n bits head).size : Int), .bool true]) ∧ Below w.heap.size w w' := by
  have h3 := numS_le n bits head
  refine (numRead_any (numS n bits head ++ t) bits w (by rw [ByteArray.size_append]; unfold maxLen; omega)).mono ?_
  rintro e w' ⟨rfl, hb⟩
  rw [rdV_back n bits head h t]
  exact ⟨rfl, hb⟩
theorem numS_ne (n bits head : Int) : (numS n bits head).toList.isEmpty = false := isEmpty_false (numS_pos n bits head)

/-- Either: what NumWrite writes, in both programs. -/
theorem write_either (n bits head : Int) (w : World) : ∃ s : ByteArray, (nOk n bits head ∧ s = numS n bits head ∨ ¬ nOk n bits head ∧ s = ⟨#[]⟩) ∧
    Calls Try.prog 5 #[.int .i64 n, .int .i64 bits, .int .i64 head] w fun e w' => e = .returned (.string s) ∧ Below w.heap.size w w' := by
  by_cases h : nOk n bits head
  · exact ⟨_, .inl ⟨h, rfl⟩, numWrite_ok n bits head w h⟩
  · refine ⟨_, .inr ⟨h, rfl⟩, (numWrite_bad n bits head w h).mono ?_⟩
    rintro e w' ⟨rfl, rfl⟩
    exact ⟨rfl, Below.refl _ _⟩
end Go.Proofs.Ytloegojbenjfdab
