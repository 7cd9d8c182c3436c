import Derived.WalkKit
import Derived.Handy
import Derived.Laws.BytesArg
import Derived.WalkLawsBesides
import Derived.Test.YtdnajdobmlgmiaaProg
import Derived.Laws.AppendOwn
namespace Go.Proofs.Ytdnajdobmlgmiaa
open Go.RowKit
set_option linter.unusedVariables false

/-- 'string(b)' of a row of bytes that the call itself owns. -/
theorem convert_owned {P : Program} {w : World} {base : Nat} {e src dst : TypeId} {v : Value} {n : Nat} {xs : List Int}
    (hs : P.underlying src = some (.slice e)) (he : P.underlying e = some (.int .u8)) (hd : P.underlying dst = some .string)
    (hown : w.ownsRow base e 1 v n (xs.map (Value.int .u8))) :
    (convert src dst v).run P w = .ok (.string (strOfNums xs)) w := by
  have hlen : xs.length = n := by simpa using hown.1
  have hcs := hown
  rcases hown.2 with ⟨rfl, h0⟩ | ⟨g, cap, cur, rfl, hb, hh, h1, h2, h3, h4⟩
  · have : xs = [] := List.eq_nil_of_length_eq_zero (by omega)
    subst this
    rw [run_convert_bytes_nil w src e hs he 0 0 dst hd]
    rfl
  · refine run_convert_bytes_arg w src e hs he g 0 n cap xs hlen ?_ dst hd
    intro i hi
    have := hcs.cells (g := g) rfl i (.int .u8 (xs.getD i 0)) (by simp [List.getD, show i < xs.length by omega])
    simpa [Addr.add_lit] using this

/-- 'string([]byte{x})'. -/
theorem convert_one {P : Program} {e src dst : TypeId}
    (hs : P.underlying src = some (.slice e)) (he : P.underlying e = some (.int .u8)) (hd : P.underlying dst = some .string) (n : Int) (w : World) :
    (convert src dst (.slice (some ⟨w.heap.size, 0, none⟩) 1 1)).run P (w.alloc (.cells #[.int .u8 n] e)) = .ok (.string (strOfNums [n])) (w.alloc (.cells #[.int .u8 n] e)) := by
  refine run_convert_bytes_arg _ src e hs he w.heap.size 0 1 1 [n] rfl ?_ dst hd
  intro i hi
  have : i = 0 := by omega
  subst this
  simp

theorem strOfNums_append (a b : List Int) : strOfNums a ++ strOfNums b = strOfNums (a ++ b) := by
  apply ByteArray.ext
  simp [strOfNums, ByteArray.data_append]

theorem own_one (w : World) (e : TypeId) (x : Value) : (w.alloc (.cells #[x] e)).ownsRow w.heap.size e 1 (.slice (some ⟨w.heap.size, 0, none⟩) 1 1) 1 [x] :=
  ⟨rfl, .inr ⟨w.heap.size, 1, #[x], rfl, Nat.le_refl _, by show (w.heap.push _)[w.heap.size]? = _; simp, Nat.le_refl _, by decide, rfl, rfl⟩⟩

theorem cell_one (W : World) (b : Nat) (x : Value) (h : W.cell? ⟨b, 0, none⟩ = some x) : ∀ j u, [x][j]? = some u → W.cell? ((⟨b, 0, none⟩ : Addr).add j) = some u := by
  intro j u hj
  match j, hj with
  | 0, hj => simp at hj; subst hj; simpa [Addr.add_lit] using h
  | j + 1, hj => simp at hj

theorem one_cell (k : IntKind) (x : Int) : ∀ u ∈ [Value.int k x], u.oneCell' = true := by
  intro u hu; simp at hu; subst hu; rfl

/-- The greatest number of so many bits, and one. -/
def pw (bits : Int) : Int := 2 ^ bits.toNat

/-- A number in bytes. -/
def numL (n P head : Int) : List Int :=
  if n < P - 1 then [head * P + n]
  else if n - (P - 1) < 128 then [head * P + (P - 1), n - (P - 1)]
  else [head * P + (P - 1), 128 + (n - (P - 1)) % 128, (n - (P - 1)) / 128]

def numS (n bits head : Int) : ByteArray := strOfNums (numL n (pw bits) head)

theorem ret_str {a b : ByteArray} (h : a = b) : Ending.returned (.string a) = .returned (.string b) := by rw [h]

theorem bits_cases {bits : Int} (h1 : 3 ≤ bits) (h2 : bits ≤ 7) : bits = 3 ∨ bits = 4 ∨ bits = 5 ∨ bits = 6 ∨ bits = 7 := by omega
theorem pw3 : pw 3 = 8 := rfl
theorem pw4 : pw 4 = 16 := rfl
theorem pw5 : pw 5 = 32 := rfl
theorem pw6 : pw 6 = 64 := rfl
theorem pw7 : pw 7 = 128 := rfl
theorem pw2 : pw 2 = 4 := rfl
theorem pw1 : pw 1 = 2 := rfl
theorem pw0 : pw 0 = 1 := rfl
theorem pw8 : pw 8 = 256 := rfl
theorem pw_succ (k : Nat) : pw ((k : Int) + 1) = 2 * pw k := by
  have e : ((k : Int) + 1).toNat = k + 1 := by omega
  unfold pw; rw [e, Int.pow_succ, Int.toNat_natCast]; omega
theorem pw_pos (b : Int) : 1 ≤ pw b := by
  have h : ∀ k : Nat, (1 : Int) ≤ 2 ^ k := by
    intro k; induction k with
    | zero => decide
    | succ k ih => rw [Int.pow_succ]; omega
  exact h _
theorem pw_le (k : Nat) (h : k ≤ 8) : pw k ≤ 256 := by
  rcases (by omega : k = 0 ∨ k = 1 ∨ k = 2 ∨ k = 3 ∨ k = 4 ∨ k = 5 ∨ k = 6 ∨ k = 7 ∨ k = 8) with rfl | rfl | rfl | rfl | rfl | rfl | rfl | rfl | rfl <;> decide
theorem ret_int {k : IntKind} {a b : Int} (h : a = b) : Ending.returned (.int k a) = .returned (.int k b) := by rw [h]
theorem wraps_i64_40 (n : Int) (h₀ : 0 ≤ n) (h₁ : n < 2 ^ 40) : IntKind.i64.wrap n = n := by rw [IntKind.wrap_i64]; omega
theorem i64_mask (i : Nat) (hi : i ≤ 40) (x : Int) (h₀ : 0 ≤ x) (h₁ : x < 2 ^ 40) : bits .and .i64 x (2 ^ i - 1) = x % 2 ^ i := bits_mask .i64 40 (by decide) wraps_i64_40 i hi x h₀ h₁
theorem and7 (x : Int) (h₀ : 0 ≤ x) (h₁ : x ≤ 255) : bits .and .i64 x 7 = x % 8 := i64_mask 3 (by decide) x h₀ (by omega)
theorem and15 (x : Int) (h₀ : 0 ≤ x) (h₁ : x ≤ 255) : bits .and .i64 x 15 = x % 16 := i64_mask 4 (by decide) x h₀ (by omega)
theorem and31 (x : Int) (h₀ : 0 ≤ x) (h₁ : x ≤ 255) : bits .and .i64 x 31 = x % 32 := i64_mask 5 (by decide) x h₀ (by omega)
theorem and63 (x : Int) (h₀ : 0 ≤ x) (h₁ : x ≤ 255) : bits .and .i64 x 63 = x % 64 := i64_mask 6 (by decide) x h₀ (by omega)
theorem and127 (x : Int) (h₀ : 0 ≤ x) (h₁ : x ≤ 255) : bits .and .i64 x 127 = x % 128 := i64_mask 7 (by decide) x h₀ (by omega)
theorem i64_xor_bd (x y : Int) (h₀ : 0 ≤ x) (h₁ : x < 2 ^ 40) (g₀ : 0 ≤ y) (g₁ : y < 2 ^ 40) : 0 ≤ bits .xor .i64 x y ∧ bits .xor .i64 x y < 2 ^ 40 := by
  obtain ⟨a, rfl⟩ := Int.eq_ofNat_of_zero_le h₀
  obtain ⟨b, rfl⟩ := Int.eq_ofNat_of_zero_le g₀
  have ha : a < 2 ^ 40 := by omega
  have hb : b < 2 ^ 40 := by omega
  have hx : a ^^^ b < 2 ^ 40 := Nat.xor_lt_two_pow ha hb
  have ha' : a % 2 ^ 64 = a := Nat.mod_eq_of_lt (by omega)
  have hb' : b % 2 ^ 64 = b := Nat.mod_eq_of_lt (by omega)
  have e : bits .xor .i64 (a : Int) (b : Int) = ((a ^^^ b : Nat) : Int) := by
    show IntKind.i64.wrap ((BitVec.ofInt 64 a ^^^ BitVec.ofInt 64 b).toNat : Nat) = _
    rw [BitVec.toNat_xor, BitVec.ofInt_natCast, BitVec.ofInt_natCast, BitVec.toNat_ofNat, BitVec.toNat_ofNat, ha', hb']
    exact wraps_i64_40 _ (Int.natCast_nonneg _) (by omega)
  rw [e]
  omega
theorem isEmpty_false {s : ByteArray} (h : 0 < s.size) : s.toList.isEmpty = false := by
  rw [ByteArray.toList_eq]
  have : s.data.toList.length = s.size := by simp
  cases hd : s.data.toList with
  | nil => rw [hd] at this; simp at this; omega
  | cons a l => rfl
/-- A reader of numbers, in memory. -/
structure Rd (w : World) (b : Nat) (top num unit : Int) : Prop where
  c0 : w.cell? ⟨b, 0, none⟩ = some (.int .i64 top)
  c1 : w.cell? ⟨b, 1, none⟩ = some (.int .i64 num)
  c2 : w.cell? ⟨b, 2, none⟩ = some (.int .i64 unit)
  f1 : w.frozen? ⟨b, 1, none⟩ = false
  f2 : w.frozen? ⟨b, 2, none⟩ = false
theorem ret3 {a a' b b' : Int} {c : Bool} (h : a = a') (h' : b = b') : Ending.returned (.tuple #[.int .i64 a, .int .i64 b, .bool c]) = .returned (.tuple #[.int .i64 a', .int .i64 b', .bool c]) := by rw [h, h']
theorem rd_alloc (w : World) (t : TypeId) (a b c : Int) : Rd (w.alloc (.cells #[.int .i64 a, .int .i64 b, .int .i64 c] t)) w.heap.size a b c := by
  refine ⟨?_, ?_, ?_, ?_, ?_⟩ <;> simp
theorem keep_cell {B b o : Nat} {w w' : World} {v : Value} (hb : Below B w w') (hB : b < B) (h : w.cell? ⟨b, o, none⟩ = some v) : w'.cell? ⟨b, o, none⟩ = some v := (hb.cell (p := ⟨b, o, none⟩) hB).trans h

/-- The bytes of a text, as numbers. -/
def bytesL (s : ByteArray) : List Int := s.data.toList.map fun c => (c.toNat : Int)
theorem bytesL_length (s : ByteArray) : (bytesL s).length = s.size := by simp [bytesL]
theorem bytesL_at (s : ByteArray) (k : Nat) (h : k < s.size) : ((s[k]'h).toNat : Int) = (bytesL s)[k]'(by rw [bytesL_length]; exact h) := by
  simp [bytesL]; rfl
theorem bytesL_bd (s : ByteArray) : ∀ x ∈ bytesL s, 0 ≤ x ∧ x ≤ 255 := by
  intro x hx
  obtain ⟨c, _, rfl⟩ := List.mem_map.1 hx
  have := c.toNat_lt
  omega
theorem strOfNums_bytesL (s : ByteArray) : strOfNums (bytesL s) = s := by
  have e : ((fun n : Int => UInt8.ofNat n.toNat) ∘ fun c : UInt8 => (c.toNat : Int)) = id := by funext c; simp
  apply ByteArray.ext
  show ((s.data.toList.map fun c => (c.toNat : Int)).map fun n => UInt8.ofNat n.toNat).toArray = s.data
  rw [List.map_map, e, List.map_id]
theorem bytesL_strOfNums (l : List Int) (h : ∀ x ∈ l, 0 ≤ x ∧ x ≤ 255) : bytesL (strOfNums l) = l := by
  simp only [bytesL, strOfNums, List.map_map]
  refine (List.map_congr_left (g := id) ?_).trans (List.map_id l)
  intro x hx
  have := h x hx
  simp
  omega
theorem bytesL_append (a b : ByteArray) : bytesL (a ++ b) = bytesL a ++ bytesL b := by
  simp [bytesL, ByteArray.data_append]
theorem bytesL_inj {a b : ByteArray} (h : bytesL a = bytesL b) : a = b := by
  rw [← strOfNums_bytesL a, ← strOfNums_bytesL b, h]
theorem bytesL_extract (s : ByteArray) (i j : Nat) : bytesL (s.extract i j) = ((bytesL s).take j).drop i := by
  simp [bytesL, ByteArray.data_extract, List.extract_eq_take_drop, List.map_take, List.map_drop, List.drop_take]
theorem extract_take (s : ByteArray) (k : Nat) : s.extract 0 k = strOfNums ((bytesL s).take k) := by
  rw [← strOfNums_bytesL (s.extract 0 k), bytesL_extract]; rfl
theorem eqT {a b : ByteArray} (h : a = b) : (a.toList == b.toList) = true := by subst h; simp
theorem neF {a b : ByteArray} (h : a ≠ b) : (a.toList == b.toList) = false := by
  rw [ByteArray.toList_eq, ByteArray.toList_eq]
  by_cases e : a.data.toList = b.data.toList
  · exact absurd (ByteArray.ext (Array.toList_inj.1 e)) h
  · exact beq_eq_false_iff_ne.2 e
theorem strOfNums_ne {a b : List Int} (h : a.length ≠ b.length) : strOfNums a ≠ strOfNums b := by
  intro e
  apply h
  rw [← strOfNums_size a, ← strOfNums_size b, e]

/-- The number at the beginning of bytes; P: one more than the greatest number of its bits. -/
def rd (P : Int) : List Int → Int × Int × Bool
  | [] => (0, 0, false)
  | [a] => if a % P < P - 1 then (a % P, 1, true) else (0, 0, false)
  | [a, b] => if a % P < P - 1 then (a % P, 1, true) else if b < 128 then (P - 1 + b, 2, true) else (0, 0, false)
  | a :: b :: c :: _ => if a % P < P - 1 then (a % P, 1, true) else if b < 128 then (P - 1 + b, 2, true)
    else if 128 ≤ c ∨ c = 0 ∨ 9999 < P - 1 + (b - 128) + 128 * c then (0, 0, false) else (P - 1 + (b - 128) + 128 * c, 3, true)
/-- What NumRead answers. -/
def rdV (s : ByteArray) (bits : Int) : Int × Int × Bool := if 3 ≤ bits ∧ bits ≤ 7 then rd (pw bits) (bytesL s) else (0, 0, false)
def tupV (r : Int × Int × Bool) : Value := .tuple #[.int .i64 r.1, .int .i64 r.2.1, .bool r.2.2]
theorem of_cons {s : ByteArray} {l : List Int} {k : Nat} {x : Int} (h : bytesL s = l) (hx : l[k]? = some x) : ∃ hk : k < s.size, ((s[k]'hk).toNat : Int) = x ∧ 0 ≤ x ∧ x ≤ 255 := by
  have hk : k < s.size := by
    rw [← bytesL_length s, h]
    exact (List.getElem?_eq_some_iff.1 hx).1
  have e : ((s[k]'hk).toNat : Int) = x := by
    rw [bytesL_at]
    subst h
    obtain ⟨_, h2⟩ := List.getElem?_eq_some_iff.1 hx
    exact h2
  refine ⟨hk, e, ?_⟩
  exact bytesL_bd s x (by rw [h]; exact List.mem_of_getElem? hx)
theorem rd1 (P a : Int) : rd P [a] = if a % P < P - 1 then (a % P, 1, true) else (0, 0, false) := rfl
theorem rd2 (P a b : Int) : rd P [a, b] = if a % P < P - 1 then (a % P, 1, true) else if b < 128 then (P - 1 + b, 2, true) else (0, 0, false) := rfl
theorem rd3 (P a b c : Int) (t : List Int) : rd P (a :: b :: c :: t) = if a % P < P - 1 then (a % P, 1, true) else if b < 128 then (P - 1 + b, 2, true) else if 128 ≤ c ∨ c = 0 ∨ 9999 < P - 1 + (b - 128) + 128 * c then (0, 0, false) else (P - 1 + (b - 128) + 128 * c, 3, true) := rfl
theorem min_bd (n : Int) : ∃ m, (if 3 < n then (3 : Int) else n) = m ∧ m ≤ 3 ∧ m ≤ n ∧ (m = 3 ∨ m = n) := by
  by_cases h : 3 < n
  · exact ⟨3, by simp [h], by omega, by omega, by omega⟩
  · exact ⟨n, by simp [h], by omega, by omega, by omega⟩
theorem pw_bd (v : Int) (h0 : 3 ≤ v) (h1 : v ≤ 7) : 8 ≤ pw v ∧ pw v ≤ 128 := by
  rcases bits_cases h0 h1 with rfl | rfl | rfl | rfl | rfl <;> decide
theorem pw_bd2 (v : Int) (h0 : 1 ≤ v) (h1 : v ≤ 5) : 2 ≤ pw v ∧ pw v ≤ 32 := by
  rcases (by omega : v = 1 ∨ v = 2 ∨ v = 3 ∨ v = 4 ∨ v = 5) with rfl | rfl | rfl | rfl | rfl <;> decide
/-- In what a number is written. -/
def nOk (n bits head : Int) : Prop := 3 ≤ bits ∧ bits ≤ 7 ∧ 0 ≤ n ∧ n ≤ 9999 ∧ 0 ≤ head ∧ head < pw (8 - bits)
end Go.Proofs.Ytdnajdobmlgmiaa

namespace Go.Proofs.Ytdnajdobmlgmiaa
open Go.RowKit
set_option linter.unusedVariables false

end Go.Proofs.Ytdnajdobmlgmiaa

namespace Go.Proofs.Ytdnajdobmlgmiaa
open Go.RowKit
set_option linter.unusedVariables false

/-- What words are made of. -/
def WS : List Int := [101, 116, 97, 111, 105, 110, 115, 114, 104, 108, 48, 49, 50, 51, 52, 53, 54, 55, 56, 57, 100, 99, 117, 109, 102, 112, 103, 119, 121, 98, 118, 107, 120, 106, 113, 122, 58, 47, 45]
/-- The place of a sign; -1, if it is none. -/
def sgn (c : Int) : Int := if c ∈ WS then (WS.idxOf c : Int) else -1
theorem WS_nodup : WS.Nodup := by decide
theorem WS_length : WS.length = 39 := rfl
theorem WS_bd : ∀ x ∈ WS, 0 ≤ x ∧ x ≤ 255 := by decide
theorem WS_at (k : Nat) (h : k < (⟨#[101, 116, 97, 111, 105, 110, 115, 114, 104, 108, 48, 49, 50, 51, 52, 53, 54, 55, 56, 57, 100, 99, 117, 109, 102, 112, 103, 119, 121, 98, 118, 107, 120, 106, 113, 122, 58, 47, 45]⟩ : ByteArray).size) : ((((⟨#[101, 116, 97, 111, 105, 110, 115, 114, 104, 108, 48, 49, 50, 51, 52, 53, 54, 55, 56, 57, 100, 99, 117, 109, 102, 112, 103, 119, 121, 98, 118, 107, 120, 106, 113, 122, 58, 47, 45]⟩ : ByteArray)[k]'h).toNat : Nat) : Int) = WS.getD k 0 := by
  rw [bytesL_at]
  have e : bytesL ⟨#[101, 116, 97, 111, 105, 110, 115, 114, 104, 108, 48, 49, 50, 51, 52, 53, 54, 55, 56, 57, 100, 99, 117, 109, 102, 112, 103, 119, 121, 98, 118, 107, 120, 106, 113, 122, 58, 47, 45]⟩ = WS := by decide
  have hk : k < WS.length := by rw [← e, bytesL_length]; exact h
  simp only [e, List.getD_eq_getElem?_getD, List.getElem?_eq_getElem hk, Option.getD_some]
theorem sgn_lt (c : Int) : sgn c < 39 := by
  unfold sgn
  by_cases h : c ∈ WS
  · rw [if_pos h]
    have := List.idxOf_lt_length_iff.2 h
    rw [WS_length] at this
    omega
  · rw [if_neg h]; decide
theorem sgn_ge (c : Int) : -1 ≤ sgn c := by
  unfold sgn
  split <;> omega
theorem sgn_at_all : ∀ k : Fin 39, sgn (WS.getD k.val 0) = (k.val : Int) := by decide
theorem sgn_at {k : Nat} (hk : k < 39) : sgn (WS.getD k 0) = k := sgn_at_all ⟨k, hk⟩
theorem sgn_none {c : Int} (h : ∀ j, j < 39 → WS.getD j 0 ≠ c) : sgn c = -1 := by
  unfold sgn
  rw [if_neg]
  intro hm
  have h1 := List.idxOf_lt_length_iff.2 hm
  apply h (WS.idxOf c) (by rw [WS_length] at h1; exact h1)
  simp [List.getD, h1, List.getElem_idxOf]
theorem sgn_back {c : Int} (h : 0 ≤ sgn c) : WS.getD (sgn c).toNat 0 = c := by
  unfold sgn at h ⊢
  by_cases hm : c ∈ WS
  · rw [if_pos hm]
    have h1 := List.idxOf_lt_length_iff.2 hm
    simp [List.getD, h1, List.getElem_idxOf]
  · rw [if_neg hm] at h; exact absurd h (by decide)

/-- Whether a text is a word. -/
def wOk (l : List Int) : Bool := l.all (fun c => decide (0 ≤ sgn c)) && decide (l.length ≤ 16)

/-- The bits of a number, the highest first. -/
def bitsL : Nat → Int → List Int
  | 0, _ => []
  | m + 1, n => bitsL m (n / 2) ++ [n % 2]
/-- The number of bits, the highest first. -/
def numB (l : List Int) : Int := l.foldl (fun n b => 2 * n + b) 0
theorem bitsL_length (m : Nat) (n : Int) : (bitsL m n).length = m := by
  induction m generalizing n with
  | zero => rfl
  | succ m ih => simp [bitsL, ih]
theorem bitsL_bit (m : Nat) (n : Int) : ∀ b ∈ bitsL m n, b = 0 ∨ b = 1 := by
  induction m generalizing n with
  | zero => intro b hb; simp [bitsL] at hb
  | succ m ih =>
    intro b hb
    simp only [bitsL, List.mem_append, List.mem_singleton] at hb
    rcases hb with hb | rfl
    · exact ih _ b hb
    · omega
theorem numB_snoc (l : List Int) (b : Int) : numB (l ++ [b]) = 2 * numB l + b := by simp [numB, List.foldl_append]
theorem numB_bitsL (m : Nat) (n : Int) (h0 : 0 ≤ n) (h1 : n < 2 ^ m) : numB (bitsL m n) = n := by
  induction m generalizing n with
  | zero => simp [bitsL, numB]; simp at h1; omega
  | succ m ih =>
    rw [Int.pow_succ] at h1
    rw [bitsL, numB_snoc, ih (n / 2) (by omega) (by omega)]
    omega
theorem rev_ind {P : List Int → Prop} (h0 : P []) (h1 : ∀ l b, P l → P (l ++ [b])) (l : List Int) : P l := by
  have h : ∀ l : List Int, P l.reverse := by
    intro l
    induction l with
    | nil => exact h0
    | cons a t ih => rw [List.reverse_cons]; exact h1 _ _ ih
  have := h l.reverse
  rwa [List.reverse_reverse] at this
theorem numB_bd (l : List Int) (h : ∀ b ∈ l, b = 0 ∨ b = 1) : 0 ≤ numB l ∧ numB l < 2 ^ l.length := by
  revert h
  refine rev_ind (P := fun l => (∀ b ∈ l, b = 0 ∨ b = 1) → 0 ≤ numB l ∧ numB l < 2 ^ l.length) ?_ ?_ l
  · intro _; exact ⟨by decide, by decide⟩
  · intro l b ih h
    have h1 := ih (fun x hx => h x (List.mem_append_left _ hx))
    have h2 := h b (by simp)
    rw [numB_snoc, List.length_append, List.length_singleton, Int.pow_succ]
    omega
theorem bitsL_numB (l : List Int) (h : ∀ b ∈ l, b = 0 ∨ b = 1) : bitsL l.length (numB l) = l := by
  revert h
  refine rev_ind (P := fun l => (∀ b ∈ l, b = 0 ∨ b = 1) → bitsL l.length (numB l) = l) ?_ ?_ l
  · intro _; rfl
  · intro l b ih h
    have h2 := h b (by simp)
    rw [numB_snoc, List.length_append, List.length_singleton, bitsL, show (2 * numB l + b) / 2 = numB l by omega, show (2 * numB l + b) % 2 = b by omega, ih (fun x hx => h x (List.mem_append_left _ hx))]

/-- A sign in bits. -/
def sgnBits (k : Int) : List Int := if k < 24 then bitsL 5 k else bitsL 7 (96 + k - 24)
/-- Signs in bits. -/
def packB (l : List Int) : List Int := l.flatMap fun c => sgnBits (sgn c)
/-- Bits, and then ones, until a byte is full. -/
def padB (l : List Int) : List Int := l ++ List.replicate ((8 - l.length % 8) % 8) 1
/-- The first bits in so many bytes. -/
def chunkN (bs : List Int) : Nat → List Int
  | 0 => []
  | m + 1 => chunkN bs m ++ [numB ((bs.drop (8 * m)).take 8)]
/-- A word in bytes. -/
def packL (l : List Int) : List Int := chunkN (padB (packB l)) ((padB (packB l)).length / 8)
theorem chunkN_length (bs : List Int) (m : Nat) : (chunkN bs m).length = m := by
  induction m with
  | zero => rfl
  | succ m ih => simp [chunkN, ih]
theorem packB_snoc (l : List Int) (c : Int) : packB (l ++ [c]) = packB l ++ sgnBits (sgn c) := by simp [packB]
theorem sgnBits_length (k : Int) : (sgnBits k).length ≤ 7 := by
  unfold sgnBits
  split
  · rw [bitsL_length]; decide
  · rw [bitsL_length]; decide
theorem sgnBits_bit (k : Int) : ∀ b ∈ sgnBits k, b = 0 ∨ b = 1 := by
  unfold sgnBits
  split
  · exact bitsL_bit _ _
  · exact bitsL_bit _ _
theorem packB_length (l : List Int) : (packB l).length ≤ 7 * l.length := by
  induction l with
  | nil => simp [packB]
  | cons a t ih =>
    have := sgnBits_length (sgn a)
    simp only [packB, List.flatMap_cons, List.length_append, List.length_cons] at ih ⊢
    omega
theorem packB_bit (l : List Int) : ∀ b ∈ packB l, b = 0 ∨ b = 1 := by
  intro b hb
  obtain ⟨c, _, h⟩ := List.mem_flatMap.1 hb
  exact sgnBits_bit _ b h
theorem padB_bit (l : List Int) (h : ∀ b ∈ l, b = 0 ∨ b = 1) : ∀ b ∈ padB l, b = 0 ∨ b = 1 := by
  intro b hb
  unfold padB at hb
  rcases List.mem_append.1 hb with hb | hb
  · exact h b hb
  · exact .inr (List.eq_of_mem_replicate hb)
theorem padB_length (l : List Int) : (padB l).length % 8 = 0 ∧ l.length ≤ (padB l).length ∧ (padB l).length ≤ l.length + 7 := by
  unfold padB
  rw [List.length_append, List.length_replicate]
  omega
theorem chunkN_bd (bs : List Int) (h : ∀ b ∈ bs, b = 0 ∨ b = 1) (m : Nat) : ∀ x ∈ chunkN bs m, 0 ≤ x ∧ x ≤ 255 := by
  induction m with
  | zero => intro x hx; simp [chunkN] at hx
  | succ m ih =>
    intro x hx
    simp only [chunkN, List.mem_append, List.mem_singleton] at hx
    rcases hx with hx | rfl
    · exact ih x hx
    · have h1 := numB_bd ((bs.drop (8 * m)).take 8) (fun b hb => h b (List.mem_of_mem_drop (List.mem_of_mem_take hb)))
      have h2 : ((bs.drop (8 * m)).take 8).length ≤ 8 := by rw [List.length_take]; omega
      have h3 : (2 : Int) ^ ((bs.drop (8 * m)).take 8).length ≤ 256 := by
        generalize ((bs.drop (8 * m)).take 8).length = q at h2
        rcases (by omega : q = 0 ∨ q = 1 ∨ q = 2 ∨ q = 3 ∨ q = 4 ∨ q = 5 ∨ q = 6 ∨ q = 7 ∨ q = 8) with rfl | rfl | rfl | rfl | rfl | rfl | rfl | rfl | rfl <;> decide
      omega

/-- Of bits the next sign, and how many bits it has. -/
def stepU (bs : List Int) : Option (Int × Nat) :=
  if bs.length < 5 then none
  else if numB (bs.take 5) < 24 then some (numB (bs.take 5), 5)
  else if bs.length < 7 then none
  else if 39 ≤ numB (bs.take 7) - 96 + 24 then none
  else some (numB (bs.take 7) - 96 + 24, 7)
/-- Signs of bits, as long as there are any, and the other bits. -/
def unpN : Nat → List Int → List Int × List Int
  | 0, bs => ([], bs)
  | f + 1, bs => match stepU bs with
    | none => ([], bs)
    | some (k, n) => (WS.getD k.toNat 0 :: (unpN f (bs.drop n)).1, (unpN f (bs.drop n)).2)
def unp (bs : List Int) : List Int × List Int := unpN bs.length bs
theorem stepU_n {bs : List Int} {k : Int} {n : Nat} (h : stepU bs = some (k, n)) : 5 ≤ n ∧ n ≤ bs.length ∧ k < 39 := by
  unfold stepU at h
  split at h
  · simp at h
  · split at h
    · simp at h; omega
    · split at h
      · simp at h
      · split at h
        · simp at h
        · simp at h; omega
theorem unpN_fuel (f : Nat) (bs : List Int) (h : bs.length ≤ f) : unpN f bs = unp bs := by
  have key : ∀ (f g : Nat) (bs : List Int), bs.length ≤ f → bs.length ≤ g → unpN f bs = unpN g bs := by
    intro f
    induction f with
    | zero =>
      intro g bs h1 h2
      have : bs = [] := List.eq_nil_of_length_eq_zero (by omega)
      subst this
      cases g with
      | zero => rfl
      | succ g => simp [unpN, stepU]
    | succ f ih =>
      intro g bs h1 h2
      cases g with
      | zero =>
        have : bs = [] := List.eq_nil_of_length_eq_zero (by omega)
        subst this
        simp [unpN, stepU]
      | succ g =>
        simp only [unpN]
        match hs : stepU bs with
        | none => rfl
        | some (k, n) =>
          have hn := stepU_n hs
          have e := ih g (bs.drop n) (by rw [List.length_drop]; omega) (by rw [List.length_drop]; omega)
          simp only [e]
  exact key f bs.length bs h (Nat.le_refl _)
theorem unp_none {bs : List Int} (h : stepU bs = none) : unp bs = ([], bs) := by
  unfold unp
  match hl : bs.length with
  | 0 => rfl
  | f + 1 => simp [unpN, h]
theorem unp_some {bs : List Int} {k : Int} {n : Nat} (h : stepU bs = some (k, n)) : unp bs = (WS.getD k.toNat 0 :: (unp (bs.drop n)).1, (unp (bs.drop n)).2) := by
  have hn := stepU_n h
  have e : unp bs = unpN (bs.length + 1) bs := (unpN_fuel _ _ (by omega)).symm
  rw [e]
  simp only [unpN, h]
  rw [unpN_fuel _ _ (by rw [List.length_drop]; omega)]
/-- Bytes in bits. -/
def bytesB (l : List Int) : List Int := l.flatMap fun c => bitsL 8 c
theorem bytesB_snoc (l : List Int) (c : Int) : bytesB (l ++ [c]) = bytesB l ++ bitsL 8 c := by simp [bytesB]
theorem bytesB_length (l : List Int) : (bytesB l).length = 8 * l.length := by
  induction l with
  | nil => rfl
  | cons a t ih =>
    simp only [bytesB, List.flatMap_cons, List.length_append, List.length_cons, bitsL_length] at ih ⊢
    omega
theorem bytesB_bit (l : List Int) : ∀ b ∈ bytesB l, b = 0 ∨ b = 1 := by
  intro b hb
  obtain ⟨c, _, h⟩ := List.mem_flatMap.1 hb
  exact bitsL_bit _ _ b h
/-- Whether what is left of bits fills a byte, and the word is not too long. -/
def unpOk (r : List Int × List Int) : Bool := (r.2.all fun b => b == 1) && decide (r.2.length < 8) && decide (r.1.length ≤ 16)
/-- The word of bytes. -/
def unpL (l : List Int) : Option (List Int) := if 16 < l.length then none else if unpOk (unp (bytesB l)) then some (unp (bytesB l)).1 else none
end Go.Proofs.Ytdnajdobmlgmiaa

namespace Go.Proofs.Ytdnajdobmlgmiaa
open Go.RowKit
set_option linter.unusedVariables false

set_option maxRecDepth 100000 in
set_option maxHeartbeats 400000 in
theorem l2Sign_any (c : Int) (w : World) (h0 : 0 ≤ c) (h1 : c ≤ 255) :
    Calls Try.prog 76 #[.int .u8 c] w fun e w' => e = .returned (.int .i64 (sgn c)) ∧ w' = w := by
  go_enter Try.func76, Try.ntmps76
  go_wp2
  go_loop [3] (fun i => ∃ k : Nat, k ≤ 39 ∧ i = .int .i64 k ∧ ∀ j, j < k → WS.getD j 0 ≠ c) (fun i => 39 - (intOf i).toNat)
  case atStart => exact ⟨0, by omega, rfl, by intro j hj; omega⟩
  case round =>
    obtain ⟨k, hk, rfl, hall⟩ := hrel
    have HA : Hid (∀ j, j < k → WS.getD j 0 ≠ c) := hall
    clear hall
    by_cases hlt : k < 39
    · have hlt' : (k : Int) < 39 := by omega
      obtain ⟨x, hx⟩ : ∃ x, WS.getD k 0 = x := ⟨_, rfl⟩
      have hq := WS_at k hlt
      rw [hx] at hq
      have HX : Hid (WS.getD k 0 = x) := hx
      clear hx
      by_cases hxc : x = c
      · subst hxc
        go_wp2
        go_ret
        exact ⟨ret_int (by rw [← HX.out, sgn_at hlt]), rfl⟩
      · have hxc' : (x == c) = false := by simp [hxc]
        go_wp2
        go_round
        case rel =>
          refine ⟨k + 1, by omega, by go_num, ?_⟩
          intro j hj
          by_cases e : j = k
          · rw [e, HX.out]; exact hxc
          · exact HA.out j (by omega)
        case measure => simp [intOf]; omega
    · go_wp2
      go_ret
      exact ⟨ret_int (by rw [sgn_none (fun j hj => HA.out j (by omega))]), rfl⟩

theorem wOk_take {l : List Int} {k : Nat} (h : ∀ j, j < k → 0 ≤ sgn (l.getD j 0)) (hk : l.length ≤ k) : l.all (fun c => decide (0 ≤ sgn c)) = true := by
  rw [List.all_eq_true]
  intro x hx
  obtain ⟨i, hi, rfl⟩ := List.getElem_of_mem hx
  have := h i (by omega)
  simpa [List.getD, hi] using this
theorem wOk_no {l : List Int} {k : Nat} (hk : k < l.length) (h : sgn (l.getD k 0) < 0) : wOk l = false := by
  unfold wOk
  have : l.all (fun c => decide (0 ≤ sgn c)) = false := by
    rw [List.all_eq_false]
    refine ⟨l[k], List.getElem_mem hk, ?_⟩
    have e : l.getD k 0 = l[k] := by simp [List.getD, hk]
    rw [e] at h
    simp; omega
  rw [this]; rfl
theorem ret_bool' {a b : Bool} (h : a = b) : Ending.returned (.bool a) = .returned (.bool b) := by rw [h]

set_option maxRecDepth 100000 in
set_option maxHeartbeats 400000 in
theorem specWordOk (s : ByteArray) (w : World) (hm : s.size ≤ maxLen) :
    Calls Try.prog 61 #[.string s] w fun e w' => e = .returned (.bool (wOk (bytesL s))) ∧ w' = w := by
  unfold maxLen at hm
  go_enter Try.func61, Try.ntmps61
  go_wp2
  go_loop [3] (fun i => ∃ k : Nat, k ≤ s.size ∧ i = .int .i64 k ∧ ∀ j, j < k → 0 ≤ sgn ((bytesL s).getD j 0)) (fun i => s.size - (intOf i).toNat)
  case atStart => exact ⟨0, by omega, rfl, by intro j hj; omega⟩
  case round =>
    obtain ⟨k, hk, rfl, hall⟩ := hrel
    have HA : Hid (∀ j, j < k → 0 ≤ sgn ((bytesL s).getD j 0)) := hall
    clear hall
    by_cases hlt : k < s.size
    · have hlt' : (k : Int) < s.size := by omega
      obtain ⟨x, hx⟩ : ∃ x, (bytesL s).getD k 0 = x := ⟨_, rfl⟩
      have hkl : k < (bytesL s).length := by rw [bytesL_length]; exact hlt
      have hq : ((s[k]'hlt).toNat : Int) = x := by rw [bytesL_at, ← hx]; simp [List.getD, hkl]
      have hxb := bytesL_bd s x (by rw [← hx]; simp [List.getD, hkl])
      obtain ⟨x0, x1⟩ := hxb
      have HX : Hid ((bytesL s).getD k 0 = x) := hx
      clear hx hkl
      have g1 := sgn_ge x
      have g2 := sgn_lt x
      go_wp2_with fail
      refine (l2Sign_any _ _ x0 x1).mono ?_
      rintro e w' ⟨rfl, rfl⟩
      by_cases hs : sgn x < 0
      · go_wp2
        go_ret
        exact ⟨ret_bool' (wOk_no (k := k) (by rw [bytesL_length]; exact hlt) (by rw [HX.out]; exact hs)).symm, rfl⟩
      · go_wp2
        go_round
        case rel =>
          refine ⟨k + 1, by omega, by go_num, ?_⟩
          intro j hj
          by_cases e : j = k
          · rw [e, HX.out]; omega
          · exact HA.out j (by omega)
        case measure => simp [intOf]; omega
    · go_wp2
      go_ret
      refine ⟨ret_bool' ?_, rfl⟩
      unfold wOk
      rw [wOk_take (k := k) HA.out (by rw [bytesL_length]; omega), bytesL_length]
      simp; omega
end Go.Proofs.Ytdnajdobmlgmiaa

namespace Go.Proofs.Ytdnajdobmlgmiaa
open Go.RowKit
set_option linter.unusedVariables false

theorem pow2_le (k : Nat) (h : k ≤ 8) : (2 : Int) ^ k ≤ 256 := by
  rcases (by omega : k = 0 ∨ k = 1 ∨ k = 2 ∨ k = 3 ∨ k = 4 ∨ k = 5 ∨ k = 6 ∨ k = 7 ∨ k = 8) with rfl | rfl | rfl | rfl | rfl | rfl | rfl | rfl | rfl <;> decide

end Go.Proofs.Ytdnajdobmlgmiaa

namespace Go.Proofs.Ytdnajdobmlgmiaa
open Go.RowKit
set_option linter.unusedVariables false

/-- A field: a name, a value, and whether no table may keep it. -/
structure Fd where
  n : ByteArray
  v : ByteArray
  q : Bool
def Fd.val (f : Fd) : Value := .agg #[.string f.n, .string f.v, .bool f.q]
/-- Fields, in memory. -/
def cellsF (fs : List Fd) : List Value := fs.flatMap fun f => [.string f.n, .string f.v, .bool f.q]
theorem cellsF_cons (f : Fd) (fs : List Fd) : cellsF (f :: fs) = .string f.n :: .string f.v :: .bool f.q :: cellsF fs := by simp [cellsF]
theorem cellsF_append (a b : List Fd) : cellsF (a ++ b) = cellsF a ++ cellsF b := by simp [cellsF]
theorem cellsF_length (fs : List Fd) : (cellsF fs).length = fs.length * 3 := by
  induction fs with
  | nil => rfl
  | cons f t ih => rw [cellsF_cons, List.length_cons, List.length_cons, List.length_cons, ih, List.length_cons]; omega
theorem cellsF_at (fs : List Fd) (k : Nat) (h : k < fs.length) : (cellsF fs)[k * 3]? = some (.string fs[k].n) ∧ (cellsF fs)[k * 3 + 1]? = some (.string fs[k].v) ∧ (cellsF fs)[k * 3 + 2]? = some (.bool fs[k].q) := by
  induction fs generalizing k with
  | nil => simp at h
  | cons f t ih =>
    cases k with
    | zero => simp [cellsF_cons]
    | succ k =>
      have := ih k (by simpa using h)
      rw [cellsF_cons, show (k + 1) * 3 = k * 3 + 1 + 1 + 1 by omega]
      simpa using this
theorem cellsF_one (fs : List Fd) : ∀ u ∈ cellsF fs, u.oneCell' = true := by
  intro u hu
  obtain ⟨f, _, h⟩ := List.mem_flatMap.1 hu
  simp at h
  rcases h with rfl | rfl | rfl <;> rfl
/-- A slice of fields that can be read. -/
structure Fs (w : World) (a : Option Addr) (n cap : Nat) (fs : List Fd) : Prop where
  len : fs.length = n
  le : n ≤ cap
  cmax : cap ≤ maxLen
  cells : ∀ g o, a = some ⟨g, o, none⟩ → ∀ j u, (cellsF fs)[j]? = some u → w.cell? ⟨g, o + j, none⟩ = some u
  some' : 0 < n → ∃ g o, a = some ⟨g, o, none⟩
  form : (a = none ∧ n = 0 ∧ cap = 0) ∨ ∃ g o, a = some ⟨g, o, none⟩
theorem Fs.at {w : World} {g o n cap : Nat} {fs : List Fd} (h : Fs w (some ⟨g, o, none⟩) n cap fs) (k : Nat) (hk : k < fs.length) :
    w.cell? ⟨g, o + k * 3, none⟩ = some (.string fs[k].n) ∧ w.cell? ⟨g, o + k * 3 + 1, none⟩ = some (.string fs[k].v) ∧ w.cell? ⟨g, o + k * 3 + 2, none⟩ = some (.bool fs[k].q) := by
  have h1 := cellsF_at fs k hk
  refine ⟨h.cells g o rfl _ _ h1.1, ?_, ?_⟩
  · have := h.cells g o rfl _ _ h1.2.1
    rwa [show o + (k * 3 + 1) = o + k * 3 + 1 by omega] at this
  · have := h.cells g o rfl _ _ h1.2.2
    rwa [show o + (k * 3 + 2) = o + k * 3 + 2 by omega] at this
theorem Fs.lt {w : World} {g o n cap : Nat} {fs : List Fd} (h : Fs w (some ⟨g, o, none⟩) n cap fs) (hn : 0 < n) : g < w.heap.size := by
  have h1 := (h.at 0 (by rw [h.len]; exact hn)).1
  exact World.block_lt_of_cell? w _ h1
theorem Fs.below {w w' : World} {a : Option Addr} {n cap : Nat} {fs : List Fd} (h : Fs w a n cap fs) (hb : Below w.heap.size w w') : Fs w' a n cap fs := by
  refine ⟨h.len, h.le, h.cmax, ?_, h.some', h.form⟩
  intro g o e j u hu
  have hc := h.cells g o e j u hu
  rw [hb.cell (p := ⟨g, o + j, none⟩) (World.block_lt_of_cell? w _ hc)]
  exact hc
/-- Fields that are not too long to be told. -/
def fsBd (fs : List Fd) : Prop := ∀ f ∈ fs, f.n.size ≤ 1048576 ∧ f.v.size ≤ 1048576
/-- Whether a field is ok. -/
def fOk (f : Fd) : Bool := wOk (bytesL f.n) && (!f.n.toList.isEmpty) && wOk (bytesL f.v)
/-- How large a field is; fields together. -/
def fLen (f : Fd) : Int := f.n.size + f.v.size + 4
def fSum : List Fd → Int
  | [] => 0
  | f :: t => fLen f + fSum t
theorem fSum_snoc (fs : List Fd) (f : Fd) : fSum (fs ++ [f]) = fSum fs + fLen f := by
  induction fs with
  | nil => simp [fSum]
  | cons a t ih => simp only [List.cons_append, fSum, ih]; omega
theorem fSum_bd (fs : List Fd) (h : fsBd fs) : 0 ≤ fSum fs ∧ fSum fs ≤ 2097156 * fs.length := by
  induction fs with
  | nil => simp [fSum]
  | cons a t ih =>
    have h1 := h a (by simp)
    have h2 := ih (fun f hf => h f (by simp [hf]))
    simp only [fSum, fLen, List.length_cons]
    omega
/-- Whether a table is ok. -/
def tOk (fs : List Fd) (max : Int) : Bool := fs.all (fun f => fOk f && !f.q) && (decide (0 ≤ max) && decide (max ≤ 64) && decide (fSum fs ≤ max))
theorem frz {W : World} {B : Nat} {cs : Array Value} {t : TypeId} (o : Nat) (h : W.heap[B]? = some (.cells cs t (0, 0))) : W.frozen? ⟨B, o, none⟩ = false := by simp [World.frozen?, h]
end Go.Proofs.Ytdnajdobmlgmiaa
