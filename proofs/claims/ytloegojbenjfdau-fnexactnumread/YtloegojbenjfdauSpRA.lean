import Derived.Test.YtloegojbenjfdauSpR3
import Derived.Test.YtloegojbenjfdauSpR4
import Derived.Test.YtloegojbenjfdauSpR5
import Derived.Test.YtloegojbenjfdauSpR6
import Derived.Test.YtloegojbenjfdauSpR7
import Derived.Test.YtloegojbenjfdauNumRA
namespace Go.Proofs.Ytloegojbenjfdau
open Go.RowKit
set_option linter.unusedVariables false

theorem sr3 (s : ByteArray) (w : World) (hm : s.size ≤ maxLen) :
    Calls Try.prog 14 #[.string s, .int .i64 3] w fun e w' => e = .returned (tupV (rd 8 (bytesL s))) ∧ w' = w := by
  have hlen := bytesL_length s
  match hl : bytesL s with
  | [] =>
    have hz : s.toList.isEmpty = true := by rw [ByteArray.toList_eq]; simp [bytesL] at hl; simp [hl]
    clear hl hlen
    show Calls Try.prog 14 #[.string s, .int .i64 3] w fun e w' => e = .returned (.tuple #[.int .i64 0, .int .i64 0, .bool false]) ∧ w' = w
    unfold maxLen at hm
    go_enter Try.func14, Try.ntmps14
    go_wp2
    go_ret3
    exact ⟨rfl, rfl⟩
  | [a] =>
    rw [hl] at hlen
    simp at hlen
    obtain ⟨hk, q, x0, x1⟩ := of_cons (k := 0) (x := a) hl rfl
    rw [rd1]
    by_cases h : a % 8 < 8 - 1
    · rw [if_pos h]; exact srA3 s a w hk hm q x0 x1 h
    · rw [if_neg h]; exact srB3 s a w hk hm q x0 x1 (by omega) (by omega)
  | [a, c] =>
    rw [hl] at hlen
    simp at hlen
    obtain ⟨hk, q, x0, x1⟩ := of_cons (k := 0) (x := a) hl rfl
    obtain ⟨hk1, q1, y0, y1⟩ := of_cons (k := 1) (x := c) hl rfl
    rw [rd2]
    by_cases h : a % 8 < 8 - 1
    · rw [if_pos h]; exact srA3 s a w hk hm q x0 x1 h
    · rw [if_neg h]
      by_cases h' : c < 128
      · rw [if_pos h']; exact srC3 s a c w hk hm q x0 x1 (by omega) hk1 q1 y0 h'
      · rw [if_neg h']; exact srD3 s a c w hk hm q x0 x1 (by omega) hk1 q1 (by omega) y1 (by omega)
  | a :: c :: d :: t =>
    rw [hl] at hlen
    simp at hlen
    obtain ⟨hk, q, x0, x1⟩ := of_cons (k := 0) (x := a) hl rfl
    obtain ⟨hk1, q1, y0, y1⟩ := of_cons (k := 1) (x := c) hl rfl
    obtain ⟨hk2, q2, z0, z1⟩ := of_cons (k := 2) (x := d) hl rfl
    rw [rd3]
    by_cases h : a % 8 < 8 - 1
    · rw [if_pos h]; exact srA3 s a w hk hm q x0 x1 h
    · rw [if_neg h]
      by_cases h' : c < 128
      · rw [if_pos h']; exact srC3 s a c w hk hm q x0 x1 (by omega) hk1 q1 y0 h'
      · rw [if_neg h']
        by_cases h1 : 128 ≤ d
        · rw [if_pos (.inl h1)]
          match t, hl, hlen with
          | [], hl, hlen =>
            simp at hlen
            exact srH3 s a c d w hk hm q x0 x1 (by omega) hk1 q1 (by omega) y1 hk2 q2 h1 z1 (by omega)
          | f :: u, hl, hlen =>
            obtain ⟨hk3, q3, u0, u1⟩ := of_cons (k := 3) (x := f) hl rfl
            exact srI3 s a c d f w hk hm q x0 x1 (by omega) hk1 q1 (by omega) y1 hk2 q2 h1 z1 hk3 q3 u0 u1
        · by_cases h2 : d = 0
          · rw [if_pos (.inr (.inl h2))]; exact srF3 s a c d w hk hm q x0 x1 (by omega) hk1 q1 (by omega) y1 hk2 q2 z0 (by omega)
          · by_cases h3 : 9999 < 8 - 1 + (c - 128) + 128 * d
            · rw [if_pos (.inr (.inr h3))]; exact srG3 s a c d w hk hm q x0 x1 (by omega) hk1 q1 (by omega) y1 hk2 q2 z0 (by omega) h3
            · rw [if_neg (by omega)]; exact srE3 s a c d w hk hm q x0 x1 (by omega) hk1 q1 (by omega) y1 hk2 q2 (by omega) (by omega) (by omega)

theorem sr4 (s : ByteArray) (w : World) (hm : s.size ≤ maxLen) :
    Calls Try.prog 14 #[.string s, .int .i64 4] w fun e w' => e = .returned (tupV (rd 16 (bytesL s))) ∧ w' = w := by
  have hlen := bytesL_length s
  match hl : bytesL s with
  | [] =>
    have hz : s.toList.isEmpty = true := by rw [ByteArray.toList_eq]; simp [bytesL] at hl; simp [hl]
    clear hl hlen
    show Calls Try.prog 14 #[.string s, .int .i64 4] w fun e w' => e = .returned (.tuple #[.int .i64 0, .int .i64 0, .bool false]) ∧ w' = w
    unfold maxLen at hm
    go_enter Try.func14, Try.ntmps14
    go_wp2
    go_ret3
    exact ⟨rfl, rfl⟩
  | [a] =>
    rw [hl] at hlen
    simp at hlen
    obtain ⟨hk, q, x0, x1⟩ := of_cons (k := 0) (x := a) hl rfl
    rw [rd1]
    by_cases h : a % 16 < 16 - 1
    · rw [if_pos h]; exact srA4 s a w hk hm q x0 x1 h
    · rw [if_neg h]; exact srB4 s a w hk hm q x0 x1 (by omega) (by omega)
  | [a, c] =>
    rw [hl] at hlen
    simp at hlen
    obtain ⟨hk, q, x0, x1⟩ := of_cons (k := 0) (x := a) hl rfl
    obtain ⟨hk1, q1, y0, y1⟩ := of_cons (k := 1) (x := c) hl rfl
    rw [rd2]
    by_cases h : a % 16 < 16 - 1
    · rw [if_pos h]; exact srA4 s a w hk hm q x0 x1 h
    · rw [if_neg h]
      by_cases h' : c < 128
      · rw [if_pos h']; exact srC4 s a c w hk hm q x0 x1 (by omega) hk1 q1 y0 h'
      · rw [if_neg h']; exact srD4 s a c w hk hm q x0 x1 (by omega) hk1 q1 (by omega) y1 (by omega)
  | a :: c :: d :: t =>
    rw [hl] at hlen
    simp at hlen
    obtain ⟨hk, q, x0, x1⟩ := of_cons (k := 0) (x := a) hl rfl
    obtain ⟨hk1, q1, y0, y1⟩ := of_cons (k := 1) (x := c) hl rfl
    obtain ⟨hk2, q2, z0, z1⟩ := of_cons (k := 2) (x := d) hl rfl
    rw [rd3]
    by_cases h : a % 16 < 16 - 1
    · rw [if_pos h]; exact srA4 s a w hk hm q x0 x1 h
    · rw [if_neg h]
      by_cases h' : c < 128
      · rw [if_pos h']; exact srC4 s a c w hk hm q x0 x1 (by omega) hk1 q1 y0 h'
      · rw [if_neg h']
        by_cases h1 : 128 ≤ d
        · rw [if_pos (.inl h1)]
          match t, hl, hlen with
          | [], hl, hlen =>
            simp at hlen
            exact srH4 s a c d w hk hm q x0 x1 (by omega) hk1 q1 (by omega) y1 hk2 q2 h1 z1 (by omega)
          | f :: u, hl, hlen =>
            obtain ⟨hk3, q3, u0, u1⟩ := of_cons (k := 3) (x := f) hl rfl
            exact srI4 s a c d f w hk hm q x0 x1 (by omega) hk1 q1 (by omega) y1 hk2 q2 h1 z1 hk3 q3 u0 u1
        · by_cases h2 : d = 0
          · rw [if_pos (.inr (.inl h2))]; exact srF4 s a c d w hk hm q x0 x1 (by omega) hk1 q1 (by omega) y1 hk2 q2 z0 (by omega)
          · by_cases h3 : 9999 < 16 - 1 + (c - 128) + 128 * d
            · rw [if_pos (.inr (.inr h3))]; exact srG4 s a c d w hk hm q x0 x1 (by omega) hk1 q1 (by omega) y1 hk2 q2 z0 (by omega) h3
            · rw [if_neg (by omega)]; exact srE4 s a c d w hk hm q x0 x1 (by omega) hk1 q1 (by omega) y1 hk2 q2 (by omega) (by omega) (by omega)

theorem sr5 (s : ByteArray) (w : World) (hm : s.size ≤ maxLen) :
    Calls Try.prog 14 #[.string s, .int .i64 5] w fun e w' => e = .returned (tupV (rd 32 (bytesL s))) ∧ w' = w := by
  have hlen := bytesL_length s
  match hl : bytesL s with
  | [] =>
    have hz : s.toList.isEmpty = true := by rw [ByteArray.toList_eq]; simp [bytesL] at hl; simp [hl]
    clear hl hlen
    show Calls Try.prog 14 #[.string s, .int .i64 5] w fun e w' => e = .returned (.tuple #[.int .i64 0, .int .i64 0, .bool false]) ∧ w' = w
    unfold maxLen at hm
    go_enter Try.func14, Try.ntmps14
    go_wp2
    go_ret3
    exact ⟨rfl, rfl⟩
  | [a] =>
    rw [hl] at hlen
    simp at hlen
    obtain ⟨hk, q, x0, x1⟩ := of_cons (k := 0) (x := a) hl rfl
    rw [rd1]
    by_cases h : a % 32 < 32 - 1
    · rw [if_pos h]; exact srA5 s a w hk hm q x0 x1 h
    · rw [if_neg h]; exact srB5 s a w hk hm q x0 x1 (by omega) (by omega)
  | [a, c] =>
    rw [hl] at hlen
    simp at hlen
    obtain ⟨hk, q, x0, x1⟩ := of_cons (k := 0) (x := a) hl rfl
    obtain ⟨hk1, q1, y0, y1⟩ := of_cons (k := 1) (x := c) hl rfl
    rw [rd2]
    by_cases h : a % 32 < 32 - 1
    · rw [if_pos h]; exact srA5 s a w hk hm q x0 x1 h
    · rw [if_neg h]
      by_cases h' : c < 128
      · rw [if_pos h']; exact srC5 s a c w hk hm q x0 x1 (by omega) hk1 q1 y0 h'
      · rw [if_neg h']; exact srD5 s a c w hk hm q x0 x1 (by omega) hk1 q1 (by omega) y1 (by omega)
  | a :: c :: d :: t =>
    rw [hl] at hlen
    simp at hlen
    obtain ⟨hk, q, x0, x1⟩ := of_cons (k := 0) (x := a) hl rfl
    obtain ⟨hk1, q1, y0, y1⟩ := of_cons (k := 1) (x := c) hl rfl
    obtain ⟨hk2, q2, z0, z1⟩ := of_cons (k := 2) (x := d) hl rfl
    rw [rd3]
    by_cases h : a % 32 < 32 - 1
    · rw [if_pos h]; exact srA5 s a w hk hm q x0 x1 h
    · rw [if_neg h]
      by_cases h' : c < 128
      · rw [if_pos h']; exact srC5 s a c w hk hm q x0 x1 (by omega) hk1 q1 y0 h'
      · rw [if_neg h']
        by_cases h1 : 128 ≤ d
        · rw [if_pos (.inl h1)]
          match t, hl, hlen with
          | [], hl, hlen =>
            simp at hlen
            exact srH5 s a c d w hk hm q x0 x1 (by omega) hk1 q1 (by omega) y1 hk2 q2 h1 z1 (by omega)
          | f :: u, hl, hlen =>
            obtain ⟨hk3, q3, u0, u1⟩ := of_cons (k := 3) (x := f) hl rfl
            exact srI5 s a c d f w hk hm q x0 x1 (by omega) hk1 q1 (by omega) y1 hk2 q2 h1 z1 hk3 q3 u0 u1
        · by_cases h2 : d = 0
          · rw [if_pos (.inr (.inl h2))]; exact srF5 s a c d w hk hm q x0 x1 (by omega) hk1 q1 (by omega) y1 hk2 q2 z0 (by omega)
          · by_cases h3 : 9999 < 32 - 1 + (c - 128) + 128 * d
            · rw [if_pos (.inr (.inr h3))]; exact srG5 s a c d w hk hm q x0 x1 (by omega) hk1 q1 (by omega) y1 hk2 q2 z0 (by omega) h3
            · rw [if_neg (by omega)]; exact srE5 s a c d w hk hm q x0 x1 (by omega) hk1 q1 (by omega) y1 hk2 q2 (by omega) (by omega) (by omega)

theorem sr6 (s : ByteArray) (w : World) (hm : s.size ≤ maxLen) :
    Calls Try.prog 14 #[.string s, .int .i64 6] w fun e w' => e = .returned (tupV (rd 64 (bytesL s))) ∧ w' = w := by
  have hlen := bytesL_length s
  match hl : bytesL s with
  | [] =>
    have hz : s.toList.isEmpty = true := by rw [ByteArray.toList_eq]; simp [bytesL] at hl; simp [hl]
    clear hl hlen
    show Calls Try.prog 14 #[.string s, .int .i64 6] w fun e w' => e = .returned (.tuple #[.int .i64 0, .int .i64 0, .bool false]) ∧ w' = w
    unfold maxLen at hm
    go_enter Try.func14, Try.ntmps14
    go_wp2
    go_ret3
    exact ⟨rfl, rfl⟩
  | [a] =>
    rw [hl] at hlen
    simp at hlen
    obtain ⟨hk, q, x0, x1⟩ := of_cons (k := 0) (x := a) hl rfl
    rw [rd1]
    by_cases h : a % 64 < 64 - 1
    · rw [if_pos h]; exact srA6 s a w hk hm q x0 x1 h
    · rw [if_neg h]; exact srB6 s a w hk hm q x0 x1 (by omega) (by omega)
  | [a, c] =>
    rw [hl] at hlen
    simp at hlen
    obtain ⟨hk, q, x0, x1⟩ := of_cons (k := 0) (x := a) hl rfl
    obtain ⟨hk1, q1, y0, y1⟩ := of_cons (k := 1) (x := c) hl rfl
    rw [rd2]
    by_cases h : a % 64 < 64 - 1
    · rw [if_pos h]; exact srA6 s a w hk hm q x0 x1 h
    · rw [if_neg h]
      by_cases h' : c < 128
      · rw [if_pos h']; exact srC6 s a c w hk hm q x0 x1 (by omega) hk1 q1 y0 h'
      · rw [if_neg h']; exact srD6 s a c w hk hm q x0 x1 (by omega) hk1 q1 (by omega) y1 (by omega)
  | a :: c :: d :: t =>
    rw [hl] at hlen
    simp at hlen
    obtain ⟨hk, q, x0, x1⟩ := of_cons (k := 0) (x := a) hl rfl
    obtain ⟨hk1, q1, y0, y1⟩ := of_cons (k := 1) (x := c) hl rfl
    obtain ⟨hk2, q2, z0, z1⟩ := of_cons (k := 2) (x := d) hl rfl
    rw [rd3]
    by_cases h : a % 64 < 64 - 1
    · rw [if_pos h]; exact srA6 s a w hk hm q x0 x1 h
    · rw [if_neg h]
      by_cases h' : c < 128
      · rw [if_pos h']; exact srC6 s a c w hk hm q x0 x1 (by omega) hk1 q1 y0 h'
      · rw [if_neg h']
        by_cases h1 : 128 ≤ d
        · rw [if_pos (.inl h1)]
          match t, hl, hlen with
          | [], hl, hlen =>
            simp at hlen
            exact srH6 s a c d w hk hm q x0 x1 (by omega) hk1 q1 (by omega) y1 hk2 q2 h1 z1 (by omega)
          | f :: u, hl, hlen =>
            obtain ⟨hk3, q3, u0, u1⟩ := of_cons (k := 3) (x := f) hl rfl
            exact srI6 s a c d f w hk hm q x0 x1 (by omega) hk1 q1 (by omega) y1 hk2 q2 h1 z1 hk3 q3 u0 u1
        · by_cases h2 : d = 0
          · rw [if_pos (.inr (.inl h2))]; exact srF6 s a c d w hk hm q x0 x1 (by omega) hk1 q1 (by omega) y1 hk2 q2 z0 (by omega)
          · by_cases h3 : 9999 < 64 - 1 + (c - 128) + 128 * d
            · rw [if_pos (.inr (.inr h3))]; exact srG6 s a c d w hk hm q x0 x1 (by omega) hk1 q1 (by omega) y1 hk2 q2 z0 (by omega) h3
            · rw [if_neg (by omega)]; exact srE6 s a c d w hk hm q x0 x1 (by omega) hk1 q1 (by omega) y1 hk2 q2 (by omega) (by omega) (by omega)

theorem sr7 (s : ByteArray) (w : World) (hm : s.size ≤ maxLen) :
    Calls Try.prog 14 #[.string s, .int .i64 7] w fun e w' => e = .returned (tupV (rd 128 (bytesL s))) ∧ w' = w := by
  have hlen := bytesL_length s
  match hl : bytesL s with
  | [] =>
    have hz : s.toList.isEmpty = true := by rw [ByteArray.toList_eq]; simp [bytesL] at hl; simp [hl]
    clear hl hlen
    show Calls Try.prog 14 #[.string s, .int .i64 7] w fun e w' => e = .returned (.tuple #[.int .i64 0, .int .i64 0, .bool false]) ∧ w' = w
    unfold maxLen at hm
    go_enter Try.func14, Try.ntmps14
    go_wp2
    go_ret3
    exact ⟨rfl, rfl⟩
  | [a] =>
    rw [hl] at hlen
    simp at hlen
    obtain ⟨hk, q, x0, x1⟩ := of_cons (k := 0) (x := a) hl rfl
    rw [rd1]
    by_cases h : a % 128 < 128 - 1
    · rw [if_pos h]; exact srA7 s a w hk hm q x0 x1 h
    · rw [if_neg h]; exact srB7 s a w hk hm q x0 x1 (by omega) (by omega)
  | [a, c] =>
    rw [hl] at hlen
    simp at hlen
    obtain ⟨hk, q, x0, x1⟩ := of_cons (k := 0) (x := a) hl rfl
    obtain ⟨hk1, q1, y0, y1⟩ := of_cons (k := 1) (x := c) hl rfl
    rw [rd2]
    by_cases h : a % 128 < 128 - 1
    · rw [if_pos h]; exact srA7 s a w hk hm q x0 x1 h
    · rw [if_neg h]
      by_cases h' : c < 128
      · rw [if_pos h']; exact srC7 s a c w hk hm q x0 x1 (by omega) hk1 q1 y0 h'
      · rw [if_neg h']; exact srD7 s a c w hk hm q x0 x1 (by omega) hk1 q1 (by omega) y1 (by omega)
  | a :: c :: d :: t =>
    rw [hl] at hlen
    simp at hlen
    obtain ⟨hk, q, x0, x1⟩ := of_cons (k := 0) (x := a) hl rfl
    obtain ⟨hk1, q1, y0, y1⟩ := of_cons (k := 1) (x := c) hl rfl
    obtain ⟨hk2, q2, z0, z1⟩ := of_cons (k := 2) (x := d) hl rfl
    rw [rd3]
    by_cases h : a % 128 < 128 - 1
    · rw [if_pos h]; exact srA7 s a w hk hm q x0 x1 h
    · rw [if_neg h]
      by_cases h' : c < 128
      · rw [if_pos h']; exact srC7 s a c w hk hm q x0 x1 (by omega) hk1 q1 y0 h'
      · rw [if_neg h']
        by_cases h1 : 128 ≤ d
        · rw [if_pos (.inl h1)]
          match t, hl, hlen with
          | [], hl, hlen =>
            simp at hlen
            exact srH7 s a c d w hk hm q x0 x1 (by omega) hk1 q1 (by omega) y1 hk2 q2 h1 z1 (by omega)
          | f :: u, hl, hlen =>
            obtain ⟨hk3, q3, u0, u1⟩ := of_cons (k := 3) (x := f) hl rfl
            exact srI7 s a c d f w hk hm q x0 x1 (by omega) hk1 q1 (by omega) y1 hk2 q2 h1 z1 hk3 q3 u0 u1
        · by_cases h2 : d = 0
          · rw [if_pos (.inr (.inl h2))]; exact srF7 s a c d w hk hm q x0 x1 (by omega) hk1 q1 (by omega) y1 hk2 q2 z0 (by omega)
          · by_cases h3 : 9999 < 128 - 1 + (c - 128) + 128 * d
            · rw [if_pos (.inr (.inr h3))]; exact srG7 s a c d w hk hm q x0 x1 (by omega) hk1 q1 (by omega) y1 hk2 q2 z0 (by omega) h3
            · rw [if_neg (by omega)]; exact srE7 s a c d w hk hm q x0 x1 (by omega) hk1 q1 (by omega) y1 hk2 q2 (by omega) (by omega) (by omega)

theorem l1Read_any (s : ByteArray) (bits : Int) (w : World) (hm : s.size ≤ maxLen) (h1 : 3 ≤ bits) (h2 : bits ≤ 7) :
    Calls Try.prog 14 #[.string s, .int .i64 bits] w fun e w' => e = .returned (tupV (rdV s bits)) ∧ w' = w := by
  unfold rdV
  rw [if_pos ⟨h1, h2⟩]
  rcases bits_cases h1 h2 with rfl | rfl | rfl | rfl | rfl
  · exact sr3 s w hm
  · exact sr4 s w hm
  · exact sr5 s w hm
  · exact sr6 s w hm
  · exact sr7 s w hm

set_option maxHeartbeats 400000 in
/-- What the specification's NumRead reads. -/
theorem specRead_any (s : ByteArray) (bits : Int) (w : World) (hm : s.size ≤ maxLen) :
    Calls Try.prog 7 #[.string s, .int .i64 bits] w fun e w' => e = .returned (tupV (rdV s bits)) ∧ w' = w := by
  by_cases h : 3 ≤ bits ∧ bits ≤ 7
  · obtain ⟨h1, h2⟩ := h
    have HM : Hid (s.size ≤ maxLen) := hm
    unfold maxLen at hm
    go_enter Try.func7, Try.ntmps7
    go_wp2_with (go_at_call 9; go_in)
    refine (l1Read_any _ _ _ HM.out (by assumption) (by assumption)).mono ?_
    rintro e w' ⟨rfl, rfl⟩
    unfold tupV
    go_wp2
    go_ret3
    exact ⟨rfl, rfl⟩
  · unfold rdV
    rw [if_neg h]
    show Calls Try.prog 7 #[.string s, .int .i64 bits] w fun e w' => e = .returned (.tuple #[.int .i64 0, .int .i64 0, .bool false]) ∧ w' = w
    unfold maxLen at hm
    by_cases h1 : bits < 3
    · clear h
      go_enter Try.func7, Try.ntmps7
      go_wp2
      go_ret3
      exact ⟨rfl, rfl⟩
    · have h2 : 7 < bits := by omega
      have h3 : (decide (bits ≤ 7)) = false := by simp; omega
      clear h
      go_enter Try.func7, Try.ntmps7
      go_wp2
      go_ret3
      exact ⟨rfl, rfl⟩
end Go.Proofs.Ytloegojbenjfdau
