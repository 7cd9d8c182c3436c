import Derived.Test.YtloegojbenjfdabNumR3
import Derived.Test.YtloegojbenjfdabNumR4
import Derived.Test.YtloegojbenjfdabNumR5
import Derived.Test.YtloegojbenjfdabNumR6
import Derived.Test.YtloegojbenjfdabNumR7
namespace Go.Proofs.Ytloegojbenjfdab
open Go.RowKit
set_option linter.unusedVariables false
theorem of_cons {s : ByteArray} {l : List Int} {k : Nat} {x : Int} (h : bytesL s = l) (hx : l[k]? = some x) : ∃ hk : k < s.size, ((s[k]'hk).toNat : Int) = x ∧ 0 ≤ x ∧ x ≤ 255 := by
  have hk : k < s.size := by
    rw [← bytesL_length s, h]
    exact (List.getElem?_eq_some_iff.1 hx).1
  have e : ((s[k]'hk).toNat : Int) = x := by
    rw [bytesL_at]
    subst h
    obtain ⟨_, h2⟩ := List.getElem?_eq_some_iff.1 hx
    exact h2
  refine ⟨hk, e, ?_⟩
  exact bytesL_bd s x (by rw [h]; exact List.mem_of_getElem? hx)
theorem rd1 (P a : Int) : rd P [a] = if a % P < P - 1 then (a % P, 1, true) else (0, 0, false) := rfl
theorem rd2 (P a b : Int) : rd P [a, b] = if a % P < P - 1 then (a % P, 1, true) else if b < 128 then (P - 1 + b, 2, true) else (0, 0, false) := rfl
theorem rd3 (P a b c : Int) (t : List Int) : rd P (a :: b :: c :: t) = if a % P < P - 1 then (a % P, 1, true) else if b < 128 then (P - 1 + b, 2, true) else if 128 ≤ c ∨ c = 0 ∨ 9999 < P - 1 + (b - 128) + 128 * c then (0, 0, false) else (P - 1 + (b - 128) + 128 * c, 3, true) := rfl
theorem min_bd (n : Int) : ∃ m, (if 3 < n then (3 : Int) else n) = m ∧ m ≤ 3 ∧ m ≤ n ∧ (m = 3 ∨ m = n) := by
  by_cases h : 3 < n
  · exact ⟨3, by simp [h], by omega, by omega, by omega⟩
  · exact ⟨n, by simp [h], by omega, by omega, by omega⟩

theorem ir3 (s : ByteArray) (w : World) (hm : s.size ≤ maxLen) :
    Calls Try.prog 7 #[.string s, .int .i64 3] w fun e w' => e = .returned (tupV (rd 8 (bytesL s))) ∧ Below w.heap.size w w' := by
  obtain ⟨m, hmin, m3, mn, mo⟩ := min_bd (s.size : Int)
  have hlen := bytesL_length s
  match hl : bytesL s with
  | [] =>
    rw [hl] at hlen
    simp at hlen
    have hz : ((s.size : Int) == 0) = true := by rw [← hlen]; rfl
    clear hl hmin m3 mn mo hlen
    show Calls Try.prog 7 #[.string s, .int .i64 3] w fun e w' => e = .returned (.tuple #[.int .i64 0, .int .i64 0, .bool false]) ∧ Below w.heap.size w w'
    unfold maxLen at hm
    go_enter Try.func7, Try.ntmps7
    go_wp2
    go_ret3
    exact ⟨rfl, Below.refl _ _⟩
  | [a] =>
    rw [hl] at hlen
    simp at hlen
    obtain ⟨hk, q, x0, x1⟩ := of_cons (k := 0) (x := a) hl rfl
    rw [rd1]
    by_cases h : a % 8 < 8 - 1
    · rw [if_pos h]; exact irA3 s a m w hk hm hmin q x0 x1 h (by omega)
    · rw [if_neg h]; exact irB3 s a m w hk hm hmin q x0 x1 (by omega) hlen.symm (by omega) (by omega)
  | [a, c] =>
    rw [hl] at hlen
    simp at hlen
    obtain ⟨hk, q, x0, x1⟩ := of_cons (k := 0) (x := a) hl rfl
    obtain ⟨hk1, q1, y0, y1⟩ := of_cons (k := 1) (x := c) hl rfl
    rw [rd2]
    by_cases h : a % 8 < 8 - 1
    · rw [if_pos h]; exact irA3 s a m w hk hm hmin q x0 x1 h (by omega)
    · rw [if_neg h]
      by_cases h' : c < 128
      · rw [if_pos h']; exact irC3 s a c m w hk hm hmin q x0 x1 (by omega) hk1 q1 y0 h' (by omega)
      · rw [if_neg h']; exact irD3 s a c m w hk hm hmin q x0 x1 (by omega) hk1 q1 (by omega) y1 (by omega) (by omega)
  | a :: c :: d :: t =>
    rw [hl] at hlen
    simp at hlen
    obtain ⟨hk, q, x0, x1⟩ := of_cons (k := 0) (x := a) hl rfl
    obtain ⟨hk1, q1, y0, y1⟩ := of_cons (k := 1) (x := c) hl rfl
    obtain ⟨hk2, q2, z0, z1⟩ := of_cons (k := 2) (x := d) hl rfl
    rw [rd3]
    by_cases h : a % 8 < 8 - 1
    · rw [if_pos h]; exact irA3 s a m w hk hm hmin q x0 x1 h (by omega)
    · rw [if_neg h]
      by_cases h' : c < 128
      · rw [if_pos h']; exact irC3 s a c m w hk hm hmin q x0 x1 (by omega) hk1 q1 y0 h' (by omega)
      · rw [if_neg h']
        by_cases h1 : 128 ≤ d
        · rw [if_pos (.inl h1)]; exact irH3 s a c d m w hk hm hmin q x0 x1 (by omega) hk1 q1 (by omega) y1 hk2 q2 (by omega) (by omega) h1 z1
        · by_cases h2 : d = 0
          · rw [if_pos (.inr (.inl h2))]; exact irF3 s a c d m w hk hm hmin q x0 x1 (by omega) hk1 q1 (by omega) y1 hk2 q2 (by omega) (by omega) z0 (by omega)
          · by_cases h3 : 9999 < 8 - 1 + (c - 128) + 128 * d
            · rw [if_pos (.inr (.inr h3))]; exact irG3 s a c d m w hk hm hmin q x0 x1 (by omega) hk1 q1 (by omega) y1 hk2 q2 (by omega) (by omega) z0 (by omega) h3
            · rw [if_neg (by omega)]; exact irE3 s a c d m w hk hm hmin q x0 x1 (by omega) hk1 q1 (by omega) y1 hk2 q2 (by omega) (by omega) (by omega) (by omega) (by omega)

theorem ir4 (s : ByteArray) (w : World) (hm : s.size ≤ maxLen) :
    Calls Try.prog 7 #[.string s, .int .i64 4] w fun e w' => e = .returned (tupV (rd 16 (bytesL s))) ∧ Below w.heap.size w w' := by
  obtain ⟨m, hmin, m3, mn, mo⟩ := min_bd (s.size : Int)
  have hlen := bytesL_length s
  match hl : bytesL s with
  | [] =>
    rw [hl] at hlen
    simp at hlen
    have hz : ((s.size : Int) == 0) = true := by rw [← hlen]; rfl
    clear hl hmin m3 mn mo hlen
    show Calls Try.prog 7 #[.string s, .int .i64 4] w fun e w' => e = .returned (.tuple #[.int .i64 0, .int .i64 0, .bool false]) ∧ Below w.heap.size w w'
    unfold maxLen at hm
    go_enter Try.func7, Try.ntmps7
    go_wp2
    go_ret3
    exact ⟨rfl, Below.refl _ _⟩
  | [a] =>
    rw [hl] at hlen
    simp at hlen
    obtain ⟨hk, q, x0, x1⟩ := of_cons (k := 0) (x := a) hl rfl
    rw [rd1]
    by_cases h : a % 16 < 16 - 1
    · rw [if_pos h]; exact irA4 s a m w hk hm hmin q x0 x1 h (by omega)
    · rw [if_neg h]; exact irB4 s a m w hk hm hmin q x0 x1 (by omega) hlen.symm (by omega) (by omega)
  | [a, c] =>
    rw [hl] at hlen
    simp at hlen
    obtain ⟨hk, q, x0, x1⟩ := of_cons (k := 0) (x := a) hl rfl
    obtain ⟨hk1, q1, y0, y1⟩ := of_cons (k := 1) (x := c) hl rfl
    rw [rd2]
    by_cases h : a % 16 < 16 - 1
    · rw [if_pos h]; exact irA4 s a m w hk hm hmin q x0 x1 h (by omega)
    · rw [if_neg h]
      by_cases h' : c < 128
      · rw [if_pos h']; exact irC4 s a c m w hk hm hmin q x0 x1 (by omega) hk1 q1 y0 h' (by omega)
      · rw [if_neg h']; exact irD4 s a c m w hk hm hmin q x0 x1 (by omega) hk1 q1 (by omega) y1 (by omega) (by omega)
  | a :: c :: d :: t =>
    rw [hl] at hlen
    simp at hlen
    obtain ⟨hk, q, x0, x1⟩ := of_cons (k := 0) (x := a) hl rfl
    obtain ⟨hk1, q1, y0, y1⟩ := of_cons (k := 1) (x := c) hl rfl
    obtain ⟨hk2, q2, z0, z1⟩ := of_cons (k := 2) (x := d) hl rfl
    rw [rd3]
    by_cases h : a % 16 < 16 - 1
    · rw [if_pos h]; exact irA4 s a m w hk hm hmin q x0 x1 h (by omega)
    · rw [if_neg h]
      by_cases h' : c < 128
      · rw [if_pos h']; exact irC4 s a c m w hk hm hmin q x0 x1 (by omega) hk1 q1 y0 h' (by omega)
      · rw [if_neg h']
        by_cases h1 : 128 ≤ d
        · rw [if_pos (.inl h1)]; exact irH4 s a c d m w hk hm hmin q x0 x1 (by omega) hk1 q1 (by omega) y1 hk2 q2 (by omega) (by omega) h1 z1
        · by_cases h2 : d = 0
          · rw [if_pos (.inr (.inl h2))]; exact irF4 s a c d m w hk hm hmin q x0 x1 (by omega) hk1 q1 (by omega) y1 hk2 q2 (by omega) (by omega) z0 (by omega)
          · by_cases h3 : 9999 < 16 - 1 + (c - 128) + 128 * d
            · rw [if_pos (.inr (.inr h3))]; exact irG4 s a c d m w hk hm hmin q x0 x1 (by omega) hk1 q1 (by omega) y1 hk2 q2 (by omega) (by omega) z0 (by omega) h3
            · rw [if_neg (by omega)]; exact irE4 s a c d m w hk hm hmin q x0 x1 (by omega) hk1 q1 (by omega) y1 hk2 q2 (by omega) (by omega) (by omega) (by omega) (by omega)

theorem ir5 (s : ByteArray) (w : World) (hm : s.size ≤ maxLen) :
    Calls Try.prog 7 #[.string s, .int .i64 5] w fun e w' => e = .returned (tupV (rd 32 (bytesL s))) ∧ Below w.heap.size w w' := by
  obtain ⟨m, hmin, m3, mn, mo⟩ := min_bd (s.size : Int)
  have hlen := bytesL_length s
  match hl : bytesL s with
  | [] =>
    rw [hl] at hlen
    simp at hlen
    have hz : ((s.size : Int) == 0) = true := by rw [← hlen]; rfl
    clear hl hmin m3 mn mo hlen
    show Calls Try.prog 7 #[.string s, .int .i64 5] w fun e w' => e = .returned (.tuple #[.int .i64 0, .int .i64 0, .bool false]) ∧ Below w.heap.size w w'
    unfold maxLen at hm
    go_enter Try.func7, Try.ntmps7
    go_wp2
    go_ret3
    exact ⟨rfl, Below.refl _ _⟩
  | [a] =>
    rw [hl] at hlen
    simp at hlen
    obtain ⟨hk, q, x0, x1⟩ := of_cons (k := 0) (x := a) hl rfl
    rw [rd1]
    by_cases h : a % 32 < 32 - 1
    · rw [if_pos h]; exact irA5 s a m w hk hm hmin q x0 x1 h (by omega)
    · rw [if_neg h]; exact irB5 s a m w hk hm hmin q x0 x1 (by omega) hlen.symm (by omega) (by omega)
  | [a, c] =>
    rw [hl] at hlen
    simp at hlen
    obtain ⟨hk, q, x0, x1⟩ := of_cons (k := 0) (x := a) hl rfl
    obtain ⟨hk1, q1, y0, y1⟩ := of_cons (k := 1) (x := c) hl rfl
    rw [rd2]
    by_cases h : a % 32 < 32 - 1
    · rw [if_pos h]; exact irA5 s a m w hk hm hmin q x0 x1 h (by omega)
    · rw [if_neg h]
      by_cases h' : c < 128
      · rw [if_pos h']; exact irC5 s a c m w hk hm hmin q x0 x1 (by omega) hk1 q1 y0 h' (by omega)
      · rw [if_neg h']; exact irD5 s a c m w hk hm hmin q x0 x1 (by omega) hk1 q1 (by omega) y1 (by omega) (by omega)
  | a :: c :: d :: t =>
    rw [hl] at hlen
    simp at hlen
    obtain ⟨hk, q, x0, x1⟩ := of_cons (k := 0) (x := a) hl rfl
    obtain ⟨hk1, q1, y0, y1⟩ := of_cons (k := 1) (x := c) hl rfl
    obtain ⟨hk2, q2, z0, z1⟩ := of_cons (k := 2) (x := d) hl rfl
    rw [rd3]
    by_cases h : a % 32 < 32 - 1
    · rw [if_pos h]; exact irA5 s a m w hk hm hmin q x0 x1 h (by omega)
    · rw [if_neg h]
      by_cases h' : c < 128
      · rw [if_pos h']; exact irC5 s a c m w hk hm hmin q x0 x1 (by omega) hk1 q1 y0 h' (by omega)
      · rw [if_neg h']
        by_cases h1 : 128 ≤ d
        · rw [if_pos (.inl h1)]; exact irH5 s a c d m w hk hm hmin q x0 x1 (by omega) hk1 q1 (by omega) y1 hk2 q2 (by omega) (by omega) h1 z1
        · by_cases h2 : d = 0
          · rw [if_pos (.inr (.inl h2))]; exact irF5 s a c d m w hk hm hmin q x0 x1 (by omega) hk1 q1 (by omega) y1 hk2 q2 (by omega) (by omega) z0 (by omega)
          · by_cases h3 : 9999 < 32 - 1 + (c - 128) + 128 * d
            · rw [if_pos (.inr (.inr h3))]; exact irG5 s a c d m w hk hm hmin q x0 x1 (by omega) hk1 q1 (by omega) y1 hk2 q2 (by omega) (by omega) z0 (by omega) h3
            · rw [if_neg (by omega)]; exact irE5 s a c d m w hk hm hmin q x0 x1 (by omega) hk1 q1 (by omega) y1 hk2 q2 (by omega) (by omega) (by omega) (by omega) (by omega)

theorem ir6 (s : ByteArray) (w : World) (hm : s.size ≤ maxLen) :
    Calls Try.prog 7 #[.string s, .int .i64 6] w fun e w' => e = .returned (tupV (rd 64 (bytesL s))) ∧ Below w.heap.size w w' := by
  obtain ⟨m, hmin, m3, mn, mo⟩ := min_bd (s.size : Int)
  have hlen := bytesL_length s
  match hl : bytesL s with
  | [] =>
    rw [hl] at hlen
    simp at hlen
    have hz : ((s.size : Int) == 0) = true := by rw [← hlen]; rfl
    clear hl hmin m3 mn mo hlen
    show Calls Try.prog 7 #[.string s, .int .i64 6] w fun e w' => e = .returned (.tuple #[.int .i64 0, .int .i64 0, .bool false]) ∧ Below w.heap.size w w'
    unfold maxLen at hm
    go_enter Try.func7, Try.ntmps7
    go_wp2
    go_ret3
    exact ⟨rfl, Below.refl _ _⟩
  | [a] =>
    rw [hl] at hlen
    simp at hlen
    obtain ⟨hk, q, x0, x1⟩ := of_cons (k := 0) (x := a) hl rfl
    rw [rd1]
    by_cases h : a % 64 < 64 - 1
    · rw [if_pos h]; exact irA6 s a m w hk hm hmin q x0 x1 h (by omega)
    · rw [if_neg h]; exact irB6 s a m w hk hm hmin q x0 x1 (by omega) hlen.symm (by omega) (by omega)
  | [a, c] =>
    rw [hl] at hlen
    simp at hlen
    obtain ⟨hk, q, x0, x1⟩ := of_cons (k := 0) (x := a) hl rfl
    obtain ⟨hk1, q1, y0, y1⟩ := of_cons (k := 1) (x := c) hl rfl
    rw [rd2]
    by_cases h : a % 64 < 64 - 1
    · rw [if_pos h]; exact irA6 s a m w hk hm hmin q x0 x1 h (by omega)
    · rw [if_neg h]
      by_cases h' : c < 128
      · rw [if_pos h']; exact irC6 s a c m w hk hm hmin q x0 x1 (by omega) hk1 q1 y0 h' (by omega)
      · rw [if_neg h']; exact irD6 s a c m w hk hm hmin q x0 x1 (by omega) hk1 q1 (by omega) y1 (by omega) (by omega)
  | a :: c :: d :: t =>
    rw [hl] at hlen
    simp at hlen
    obtain ⟨hk, q, x0, x1⟩ := of_cons (k := 0) (x := a) hl rfl
    obtain ⟨hk1, q1, y0, y1⟩ := of_cons (k := 1) (x := c) hl rfl
    obtain ⟨hk2, q2, z0, z1⟩ := of_cons (k := 2) (x := d) hl rfl
    rw [rd3]
    by_cases h : a % 64 < 64 - 1
    · rw [if_pos h]; exact irA6 s a m w hk hm hmin q x0 x1 h (by omega)
    · rw [if_neg h]
      by_cases h' : c < 128
      · rw [if_pos h']; exact irC6 s a c m w hk hm hmin q x0 x1 (by omega) hk1 q1 y0 h' (by omega)
      · rw [if_neg h']
        by_cases h1 : 128 ≤ d
        · rw [if_pos (.inl h1)]; exact irH6 s a c d m w hk hm hmin q x0 x1 (by omega) hk1 q1 (by omega) y1 hk2 q2 (by omega) (by omega) h1 z1
        · by_cases h2 : d = 0
          · rw [if_pos (.inr (.inl h2))]; exact irF6 s a c d m w hk hm hmin q x0 x1 (by omega) hk1 q1 (by omega) y1 hk2 q2 (by omega) (by omega) z0 (by omega)
          · by_cases h3 : 9999 < 64 - 1 + (c - 128) + 128 * d
            · rw [if_pos (.inr (.inr h3))]; exact irG6 s a c d m w hk hm hmin q x0 x1 (by omega) hk1 q1 (by omega) y1 hk2 q2 (by omega) (by omega) z0 (by omega) h3
            · rw [if_neg (by omega)]; exact irE6 s a c d m w hk hm hmin q x0 x1 (by omega) hk1 q1 (by omega) y1 hk2 q2 (by omega) (by omega) (by omega) (by omega) (by omega)

theorem ir7 (s : ByteArray) (w : World) (hm : s.size ≤ maxLen) :
    Calls Try.prog 7 #[.string s, .int .i64 7] w fun e w' => e = .returned (tupV (rd 128 (bytesL s))) ∧ Below w.heap.size w w' := by
  obtain ⟨m, hmin, m3, mn, mo⟩ := min_bd (s.size : Int)
  have hlen := bytesL_length s
  match hl : bytesL s with
  | [] =>
    rw [hl] at hlen
    simp at hlen
    have hz : ((s.size : Int) == 0) = true := by rw [← hlen]; rfl
    clear hl hmin m3 mn mo hlen
    show Calls Try.prog 7 #[.string s, .int .i64 7] w fun e w' => e = .returned (.tuple #[.int .i64 0, .int .i64 0, .bool false]) ∧ Below w.heap.size w w'
    unfold maxLen at hm
    go_enter Try.func7, Try.ntmps7
    go_wp2
    go_ret3
    exact ⟨rfl, Below.refl _ _⟩
  | [a] =>
    rw [hl] at hlen
    simp at hlen
    obtain ⟨hk, q, x0, x1⟩ := of_cons (k := 0) (x := a) hl rfl
    rw [rd1]
    by_cases h : a % 128 < 128 - 1
    · rw [if_pos h]; exact irA7 s a m w hk hm hmin q x0 x1 h (by omega)
    · rw [if_neg h]; exact irB7 s a m w hk hm hmin q x0 x1 (by omega) hlen.symm (by omega) (by omega)
  | [a, c] =>
    rw [hl] at hlen
    simp at hlen
    obtain ⟨hk, q, x0, x1⟩ := of_cons (k := 0) (x := a) hl rfl
    obtain ⟨hk1, q1, y0, y1⟩ := of_cons (k := 1) (x := c) hl rfl
    rw [rd2]
    by_cases h : a % 128 < 128 - 1
    · rw [if_pos h]; exact irA7 s a m w hk hm hmin q x0 x1 h (by omega)
    · rw [if_neg h]
      by_cases h' : c < 128
      · rw [if_pos h']; exact irC7 s a c m w hk hm hmin q x0 x1 (by omega) hk1 q1 y0 h' (by omega)
      · rw [if_neg h']; exact irD7 s a c m w hk hm hmin q x0 x1 (by omega) hk1 q1 (by omega) y1 (by omega) (by omega)
  | a :: c :: d :: t =>
    rw [hl] at hlen
    simp at hlen
    obtain ⟨hk, q, x0, x1⟩ := of_cons (k := 0) (x := a) hl rfl
    obtain ⟨hk1, q1, y0, y1⟩ := of_cons (k := 1) (x := c) hl rfl
    obtain ⟨hk2, q2, z0, z1⟩ := of_cons (k := 2) (x := d) hl rfl
    rw [rd3]
    by_cases h : a % 128 < 128 - 1
    · rw [if_pos h]; exact irA7 s a m w hk hm hmin q x0 x1 h (by omega)
    · rw [if_neg h]
      by_cases h' : c < 128
      · rw [if_pos h']; exact irC7 s a c m w hk hm hmin q x0 x1 (by omega) hk1 q1 y0 h' (by omega)
      · rw [if_neg h']
        by_cases h1 : 128 ≤ d
        · rw [if_pos (.inl h1)]; exact irH7 s a c d m w hk hm hmin q x0 x1 (by omega) hk1 q1 (by omega) y1 hk2 q2 (by omega) (by omega) h1 z1
        · by_cases h2 : d = 0
          · rw [if_pos (.inr (.inl h2))]; exact irF7 s a c d m w hk hm hmin q x0 x1 (by omega) hk1 q1 (by omega) y1 hk2 q2 (by omega) (by omega) z0 (by omega)
          · by_cases h3 : 9999 < 128 - 1 + (c - 128) + 128 * d
            · rw [if_pos (.inr (.inr h3))]; exact irG7 s a c d m w hk hm hmin q x0 x1 (by omega) hk1 q1 (by omega) y1 hk2 q2 (by omega) (by omega) z0 (by omega) h3
            · rw [if_neg (by omega)]; exact irE7 s a c d m w hk hm hmin q x0 x1 (by omega) hk1 q1 (by omega) y1 hk2 q2 (by omega) (by omega) (by omega) (by omega) (by omega)

set_option maxHeartbeats 400000 in
/-- What NumRead reads. -/
theorem numRead_any (s : ByteArray) (bits : Int) (w : World) (hm : s.size ≤ maxLen) :
    Calls Try.prog 7 #[.string s, .int .i64 bits] w fun e w' => e = .returned (tupV (rdV s bits)) ∧ Below w.heap.size w w' := by
  unfold rdV
  by_cases h : 3 ≤ bits ∧ bits ≤ 7
  · rw [if_pos h]
    rcases bits_cases h.1 h.2 with rfl | rfl | rfl | rfl | rfl
    · exact ir3 s w hm
    · exact ir4 s w hm
    · exact ir5 s w hm
    · exact ir6 s w hm
    · exact ir7 s w hm
  · rw [if_neg h]
    show Calls Try.prog 7 #[.string s, .int .i64 bits] w fun e w' => e = .returned (.tuple #[.int .i64 0, .int .i64 0, .bool false]) ∧ Below w.heap.size w w'
    unfold maxLen at hm
    have hz : ((s.size : Int) == 0) = true ∨ ((s.size : Int) == 0) = false := by cases ((s.size : Int) == 0) <;> simp
    rcases hz with hz | hz
    · clear h
      go_enter Try.func7, Try.ntmps7
      go_wp2
      all_goals
        go_ret3
        exact ⟨rfl, Below.refl _ _⟩
    · by_cases h1 : bits < 3
      · clear h
        go_enter Try.func7, Try.ntmps7
        go_wp2
        go_ret3
        exact ⟨rfl, Below.refl _ _⟩
      · have h2 : 7 < bits := by omega
        have h3 : (decide (bits ≤ 7)) = false := by simp; omega
        clear h
        go_enter Try.func7, Try.ntmps7
        go_wp2
        go_ret3
        exact ⟨rfl, Below.refl _ _⟩
end Go.Proofs.Ytloegojbenjfdab
