import Derived.Test.YtafhpcgdlmkbeayKit
namespace Go.Proofs.Ytafhpcgdlmkbeay
open Go.RowKit
set_option linter.unusedVariables false

/-- What words are made of. -/
def WS : List Int := [101, 116, 97, 111, 105, 110, 115, 114, 104, 108, 48, 49, 50, 51, 52, 53, 54, 55, 56, 57, 100, 99, 117, 109, 102, 112, 103, 119, 121, 98, 118, 107, 120, 106, 113, 122, 58, 47, 45]
/-- The place of a sign; -1, if it is none. -/
def sgn (c : Int) : Int := if c ∈ WS then (WS.idxOf c : Int) else -1
theorem WS_nodup : WS.Nodup := by decide
theorem WS_length : WS.length = 39 := rfl
theorem WS_bd : ∀ x ∈ WS, 0 ≤ x ∧ x ≤ 255 := by decide
theorem WS_at (k : Nat) (h : k < (⟨#[101, 116, 97, 111, 105, 110, 115, 114, 104, 108, 48, 49, 50, 51, 52, 53, 54, 55, 56, 57, 100, 99, 117, 109, 102, 112, 103, 119, 121, 98, 118, 107, 120, 106, 113, 122, 58, 47, 45]⟩ : ByteArray).size) : ((((⟨#[101, 116, 97, 111, 105, 110, 115, 114, 104, 108, 48, 49, 50, 51, 52, 53, 54, 55, 56, 57, 100, 99, 117, 109, 102, 112, 103, 119, 121, 98, 118, 107, 120, 106, 113, 122, 58, 47, 45]⟩ : ByteArray)[k]'h).toNat : Nat) : Int) = WS.getD k 0 := by
  rw [bytesL_at]
  have e : bytesL ⟨#[101, 116, 97, 111, 105, 110, 115, 114, 104, 108, 48, 49, 50, 51, 52, 53, 54, 55, 56, 57, 100, 99, 117, 109, 102, 112, 103, 119, 121, 98, 118, 107, 120, 106, 113, 122, 58, 47, 45]⟩ = WS := by decide
  have hk : k < WS.length := by rw [← e, bytesL_length]; exact h
  simp only [e, List.getD_eq_getElem?_getD, List.getElem?_eq_getElem hk, Option.getD_some]
theorem sgn_lt (c : Int) : sgn c < 39 := by
  unfold sgn
  by_cases h : c ∈ WS
  · rw [if_pos h]
    have := List.idxOf_lt_length_iff.2 h
    rw [WS_length] at this
    omega
  · rw [if_neg h]; decide
theorem sgn_ge (c : Int) : -1 ≤ sgn c := by
  unfold sgn
  split <;> omega
theorem sgn_at_all : ∀ k : Fin 39, sgn (WS.getD k.val 0) = (k.val : Int) := by decide
theorem sgn_at {k : Nat} (hk : k < 39) : sgn (WS.getD k 0) = k := sgn_at_all ⟨k, hk⟩
theorem sgn_none {c : Int} (h : ∀ j, j < 39 → WS.getD j 0 ≠ c) : sgn c = -1 := by
  unfold sgn
  rw [if_neg]
  intro hm
  have h1 := List.idxOf_lt_length_iff.2 hm
  apply h (WS.idxOf c) (by rw [WS_length] at h1; exact h1)
  simp [List.getD, h1, List.getElem_idxOf]
theorem sgn_back {c : Int} (h : 0 ≤ sgn c) : WS.getD (sgn c).toNat 0 = c := by
  unfold sgn at h ⊢
  by_cases hm : c ∈ WS
  · rw [if_pos hm]
    have h1 := List.idxOf_lt_length_iff.2 hm
    simp [List.getD, h1, List.getElem_idxOf]
  · rw [if_neg hm] at h; exact absurd h (by decide)

/-- Whether a text is a word. -/
def wOk (l : List Int) : Bool := l.all (fun c => decide (0 ≤ sgn c)) && decide (l.length ≤ 16)

/-- The bits of a number, the highest first. -/
def bitsL : Nat → Int → List Int
  | 0, _ => []
  | m + 1, n => bitsL m (n / 2) ++ [n % 2]
/-- The number of bits, the highest first. -/
def numB (l : List Int) : Int := l.foldl (fun n b => 2 * n + b) 0
theorem bitsL_length (m : Nat) (n : Int) : (bitsL m n).length = m := by
  induction m generalizing n with
  | zero => rfl
  | succ m ih => simp [bitsL, ih]
theorem bitsL_bit (m : Nat) (n : Int) : ∀ b ∈ bitsL m n, b = 0 ∨ b = 1 := by
  induction m generalizing n with
  | zero => intro b hb; simp [bitsL] at hb
  | succ m ih =>
    intro b hb
    simp only [bitsL, List.mem_append, List.mem_singleton] at hb
    rcases hb with hb | rfl
    · exact ih _ b hb
    · omega
theorem numB_snoc (l : List Int) (b : Int) : numB (l ++ [b]) = 2 * numB l + b := by simp [numB, List.foldl_append]
theorem numB_bitsL (m : Nat) (n : Int) (h0 : 0 ≤ n) (h1 : n < 2 ^ m) : numB (bitsL m n) = n := by
  induction m generalizing n with
  | zero => simp [bitsL, numB]; simp at h1; omega
  | succ m ih =>
    rw [Int.pow_succ] at h1
    rw [bitsL, numB_snoc, ih (n / 2) (by omega) (by omega)]
    omega
theorem rev_ind {P : List Int → Prop} (h0 : P []) (h1 : ∀ l b, P l → P (l ++ [b])) (l : List Int) : P l := by
  have h : ∀ l : List Int, P l.reverse := by
    intro l
    induction l with
    | nil => exact h0
    | cons a t ih => rw [List.reverse_cons]; exact h1 _ _ ih
  have := h l.reverse
  rwa [List.reverse_reverse] at this
theorem numB_bd (l : List Int) (h : ∀ b ∈ l, b = 0 ∨ b = 1) : 0 ≤ numB l ∧ numB l < 2 ^ l.length := by
  revert h
  refine rev_ind (P := fun l => (∀ b ∈ l, b = 0 ∨ b = 1) → 0 ≤ numB l ∧ numB l < 2 ^ l.length) ?_ ?_ l
  · intro _; exact ⟨by decide, by decide⟩
  · intro l b ih h
    have h1 := ih (fun x hx => h x (List.mem_append_left _ hx))
    have h2 := h b (by simp)
    rw [numB_snoc, List.length_append, List.length_singleton, Int.pow_succ]
    omega
theorem bitsL_numB (l : List Int) (h : ∀ b ∈ l, b = 0 ∨ b = 1) : bitsL l.length (numB l) = l := by
  revert h
  refine rev_ind (P := fun l => (∀ b ∈ l, b = 0 ∨ b = 1) → bitsL l.length (numB l) = l) ?_ ?_ l
  · intro _; rfl
  · intro l b ih h
    have h2 := h b (by simp)
    rw [numB_snoc, List.length_append, List.length_singleton, bitsL, show (2 * numB l + b) / 2 = numB l by omega, show (2 * numB l + b) % 2 = b by omega, ih (fun x hx => h x (List.mem_append_left _ hx))]

/-- A sign in bits. -/
def sgnBits (k : Int) : List Int := if k < 24 then bitsL 5 k else bitsL 7 (96 + k - 24)
/-- Signs in bits. -/
def packB (l : List Int) : List Int := l.flatMap fun c => sgnBits (sgn c)
/-- Bits, and then ones, until a byte is full. -/
def padB (l : List Int) : List Int := l ++ List.replicate ((8 - l.length % 8) % 8) 1
/-- The first bits in so many bytes. -/
def chunkN (bs : List Int) : Nat → List Int
  | 0 => []
  | m + 1 => chunkN bs m ++ [numB ((bs.drop (8 * m)).take 8)]
/-- A word in bytes. -/
def packL (l : List Int) : List Int := chunkN (padB (packB l)) ((padB (packB l)).length / 8)
theorem chunkN_length (bs : List Int) (m : Nat) : (chunkN bs m).length = m := by
  induction m with
  | zero => rfl
  | succ m ih => simp [chunkN, ih]
theorem packB_snoc (l : List Int) (c : Int) : packB (l ++ [c]) = packB l ++ sgnBits (sgn c) := by simp [packB]
theorem sgnBits_length (k : Int) : (sgnBits k).length ≤ 7 := by
  unfold sgnBits
  split
  · rw [bitsL_length]; decide
  · rw [bitsL_length]; decide
theorem sgnBits_bit (k : Int) : ∀ b ∈ sgnBits k, b = 0 ∨ b = 1 := by
  unfold sgnBits
  split
  · exact bitsL_bit _ _
  · exact bitsL_bit _ _
theorem packB_length (l : List Int) : (packB l).length ≤ 7 * l.length := by
  induction l with
  | nil => simp [packB]
  | cons a t ih =>
    have := sgnBits_length (sgn a)
    simp only [packB, List.flatMap_cons, List.length_append, List.length_cons] at ih ⊢
    omega
theorem packB_bit (l : List Int) : ∀ b ∈ packB l, b = 0 ∨ b = 1 := by
  intro b hb
  obtain ⟨c, _, h⟩ := List.mem_flatMap.1 hb
  exact sgnBits_bit _ b h
theorem padB_bit (l : List Int) (h : ∀ b ∈ l, b = 0 ∨ b = 1) : ∀ b ∈ padB l, b = 0 ∨ b = 1 := by
  intro b hb
  unfold padB at hb
  rcases List.mem_append.1 hb with hb | hb
  · exact h b hb
  · exact .inr (List.eq_of_mem_replicate hb)
theorem padB_length (l : List Int) : (padB l).length % 8 = 0 ∧ l.length ≤ (padB l).length ∧ (padB l).length ≤ l.length + 7 := by
  unfold padB
  rw [List.length_append, List.length_replicate]
  omega
theorem chunkN_bd (bs : List Int) (h : ∀ b ∈ bs, b = 0 ∨ b = 1) (m : Nat) : ∀ x ∈ chunkN bs m, 0 ≤ x ∧ x ≤ 255 := by
  induction m with
  | zero => intro x hx; simp [chunkN] at hx
  | succ m ih =>
    intro x hx
    simp only [chunkN, List.mem_append, List.mem_singleton] at hx
    rcases hx with hx | rfl
    · exact ih x hx
    · have h1 := numB_bd ((bs.drop (8 * m)).take 8) (fun b hb => h b (List.mem_of_mem_drop (List.mem_of_mem_take hb)))
      have h2 : ((bs.drop (8 * m)).take 8).length ≤ 8 := by rw [List.length_take]; omega
      have h3 : (2 : Int) ^ ((bs.drop (8 * m)).take 8).length ≤ 256 := by
        generalize ((bs.drop (8 * m)).take 8).length = q at h2
        rcases (by omega : q = 0 ∨ q = 1 ∨ q = 2 ∨ q = 3 ∨ q = 4 ∨ q = 5 ∨ q = 6 ∨ q = 7 ∨ q = 8) with rfl | rfl | rfl | rfl | rfl | rfl | rfl | rfl | rfl <;> decide
      omega

/-- Of bits the next sign, and how many bits it has. -/
def stepU (bs : List Int) : Option (Int × Nat) :=
  if bs.length < 5 then none
  else if numB (bs.take 5) < 24 then some (numB (bs.take 5), 5)
  else if bs.length < 7 then none
  else if 39 ≤ numB (bs.take 7) - 96 + 24 then none
  else some (numB (bs.take 7) - 96 + 24, 7)
/-- Signs of bits, as long as there are any, and the other bits. -/
def unpN : Nat → List Int → List Int × List Int
  | 0, bs => ([], bs)
  | f + 1, bs => match stepU bs with
    | none => ([], bs)
    | some (k, n) => (WS.getD k.toNat 0 :: (unpN f (bs.drop n)).1, (unpN f (bs.drop n)).2)
def unp (bs : List Int) : List Int × List Int := unpN bs.length bs
theorem stepU_n {bs : List Int} {k : Int} {n : Nat} (h : stepU bs = some (k, n)) : 5 ≤ n ∧ n ≤ bs.length ∧ k < 39 := by
  unfold stepU at h
  split at h
  · simp at h
  · split at h
    · simp at h; omega
    · split at h
      · simp at h
      · split at h
        · simp at h
        · simp at h; omega
theorem unpN_fuel (f : Nat) (bs : List Int) (h : bs.length ≤ f) : unpN f bs = unp bs := by
  have key : ∀ (f g : Nat) (bs : List Int), bs.length ≤ f → bs.length ≤ g → unpN f bs = unpN g bs := by
    intro f
    induction f with
    | zero =>
      intro g bs h1 h2
      have : bs = [] := List.eq_nil_of_length_eq_zero (by omega)
      subst this
      cases g with
      | zero => rfl
      | succ g => simp [unpN, stepU]
    | succ f ih =>
      intro g bs h1 h2
      cases g with
      | zero =>
        have : bs = [] := List.eq_nil_of_length_eq_zero (by omega)
        subst this
        simp [unpN, stepU]
      | succ g =>
        simp only [unpN]
        match hs : stepU bs with
        | none => rfl
        | some (k, n) =>
          have hn := stepU_n hs
          have e := ih g (bs.drop n) (by rw [List.length_drop]; omega) (by rw [List.length_drop]; omega)
          simp only [e]
  exact key f bs.length bs h (Nat.le_refl _)
theorem unp_none {bs : List Int} (h : stepU bs = none) : unp bs = ([], bs) := by
  unfold unp
  match hl : bs.length with
  | 0 => rfl
  | f + 1 => simp [unpN, h]
theorem unp_some {bs : List Int} {k : Int} {n : Nat} (h : stepU bs = some (k, n)) : unp bs = (WS.getD k.toNat 0 :: (unp (bs.drop n)).1, (unp (bs.drop n)).2) := by
  have hn := stepU_n h
  have e : unp bs = unpN (bs.length + 1) bs := (unpN_fuel _ _ (by omega)).symm
  rw [e]
  simp only [unpN, h]
  rw [unpN_fuel _ _ (by rw [List.length_drop]; omega)]
/-- Bytes in bits. -/
def bytesB (l : List Int) : List Int := l.flatMap fun c => bitsL 8 c
theorem bytesB_snoc (l : List Int) (c : Int) : bytesB (l ++ [c]) = bytesB l ++ bitsL 8 c := by simp [bytesB]
theorem bytesB_length (l : List Int) : (bytesB l).length = 8 * l.length := by
  induction l with
  | nil => rfl
  | cons a t ih =>
    simp only [bytesB, List.flatMap_cons, List.length_append, List.length_cons, bitsL_length] at ih ⊢
    omega
theorem bytesB_bit (l : List Int) : ∀ b ∈ bytesB l, b = 0 ∨ b = 1 := by
  intro b hb
  obtain ⟨c, _, h⟩ := List.mem_flatMap.1 hb
  exact bitsL_bit _ _ b h
/-- Whether what is left of bits fills a byte, and the word is not too long. -/
def unpOk (r : List Int × List Int) : Bool := (r.2.all fun b => b == 1) && decide (r.2.length < 8) && decide (r.1.length ≤ 16)
/-- The word of bytes. -/
def unpL (l : List Int) : Option (List Int) := if 16 < l.length then none else if unpOk (unp (bytesB l)) then some (unp (bytesB l)).1 else none
end Go.Proofs.Ytafhpcgdlmkbeay
