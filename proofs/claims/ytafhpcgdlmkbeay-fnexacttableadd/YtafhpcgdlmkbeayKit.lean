import Derived.WalkKit
import Derived.Handy
import Derived.Laws.BytesArg
import Derived.WalkLawsBesides
namespace Go.Proofs.Ytafhpcgdlmkbeay
open Go.RowKit
set_option linter.unusedVariables false

/-- 'string(b)' of a row of bytes that the call itself owns. -/
theorem convert_owned {P : Program} {w : World} {base : Nat} {e src dst : TypeId} {v : Value} {n : Nat} {xs : List Int}
    (hs : P.underlying src = some (.slice e)) (he : P.underlying e = some (.int .u8)) (hd : P.underlying dst = some .string)
    (hown : w.ownsRow base e 1 v n (xs.map (Value.int .u8))) :
    (convert src dst v).run P w = .ok (.string (strOfNums xs)) w := by
  have hlen : xs.length = n := by simpa using hown.1
  have hcs := hown
  rcases hown.2 with ⟨rfl, h0⟩ | ⟨g, cap, cur, rfl, hb, hh, h1, h2, h3, h4⟩
  · have : xs = [] := List.eq_nil_of_length_eq_zero (by omega)
    subst this
    rw [run_convert_bytes_nil w src e hs he 0 0 dst hd]
    rfl
  · refine run_convert_bytes_arg w src e hs he g 0 n cap xs hlen ?_ dst hd
    intro i hi
    have := hcs.cells (g := g) rfl i (.int .u8 (xs.getD i 0)) (by simp [List.getD, show i < xs.length by omega])
    simpa [Addr.add_lit] using this

/-- 'string([]byte{x})'. -/
theorem convert_one {P : Program} {e src dst : TypeId}
    (hs : P.underlying src = some (.slice e)) (he : P.underlying e = some (.int .u8)) (hd : P.underlying dst = some .string) (n : Int) (w : World) :
    (convert src dst (.slice (some ⟨w.heap.size, 0, none⟩) 1 1)).run P (w.alloc (.cells #[.int .u8 n] e)) = .ok (.string (strOfNums [n])) (w.alloc (.cells #[.int .u8 n] e)) := by
  refine run_convert_bytes_arg _ src e hs he w.heap.size 0 1 1 [n] rfl ?_ dst hd
  intro i hi
  have : i = 0 := by omega
  subst this
  simp

theorem strOfNums_append (a b : List Int) : strOfNums a ++ strOfNums b = strOfNums (a ++ b) := by
  apply ByteArray.ext
  simp [strOfNums, ByteArray.data_append]

theorem own_one (w : World) (e : TypeId) (x : Value) : (w.alloc (.cells #[x] e)).ownsRow w.heap.size e 1 (.slice (some ⟨w.heap.size, 0, none⟩) 1 1) 1 [x] :=
  ⟨rfl, .inr ⟨w.heap.size, 1, #[x], rfl, Nat.le_refl _, by show (w.heap.push _)[w.heap.size]? = _; simp, Nat.le_refl _, by decide, rfl, rfl⟩⟩

theorem cell_one (W : World) (b : Nat) (x : Value) (h : W.cell? ⟨b, 0, none⟩ = some x) : ∀ j u, [x][j]? = some u → W.cell? ((⟨b, 0, none⟩ : Addr).add j) = some u := by
  intro j u hj
  match j, hj with
  | 0, hj => simp at hj; subst hj; simpa [Addr.add_lit] using h
  | j + 1, hj => simp at hj

theorem one_cell (k : IntKind) (x : Int) : ∀ u ∈ [Value.int k x], u.oneCell' = true := by
  intro u hu; simp at hu; subst hu; rfl

/-- The greatest number of so many bits, and one. -/
def pw (bits : Int) : Int := 2 ^ bits.toNat

/-- A number in bytes. -/
def numL (n P head : Int) : List Int :=
  if n < P - 1 then [head * P + n]
  else if n - (P - 1) < 128 then [head * P + (P - 1), n - (P - 1)]
  else [head * P + (P - 1), 128 + (n - (P - 1)) % 128, (n - (P - 1)) / 128]

def numS (n bits head : Int) : ByteArray := strOfNums (numL n (pw bits) head)

theorem ret_str {a b : ByteArray} (h : a = b) : Ending.returned (.string a) = .returned (.string b) := by rw [h]

theorem bits_cases {bits : Int} (h1 : 3 ≤ bits) (h2 : bits ≤ 7) : bits = 3 ∨ bits = 4 ∨ bits = 5 ∨ bits = 6 ∨ bits = 7 := by omega
theorem pw3 : pw 3 = 8 := rfl
theorem pw4 : pw 4 = 16 := rfl
theorem pw5 : pw 5 = 32 := rfl
theorem pw6 : pw 6 = 64 := rfl
theorem pw7 : pw 7 = 128 := rfl
theorem pw2 : pw 2 = 4 := rfl
theorem pw1 : pw 1 = 2 := rfl
theorem pw0 : pw 0 = 1 := rfl
theorem pw8 : pw 8 = 256 := rfl
theorem pw_succ (k : Nat) : pw ((k : Int) + 1) = 2 * pw k := by
  have e : ((k : Int) + 1).toNat = k + 1 := by omega
  unfold pw; rw [e, Int.pow_succ, Int.toNat_natCast]; omega
theorem pw_pos (b : Int) : 1 ≤ pw b := by
  have h : ∀ k : Nat, (1 : Int) ≤ 2 ^ k := by
    intro k; induction k with
    | zero => decide
    | succ k ih => rw [Int.pow_succ]; omega
  exact h _
theorem pw_le (k : Nat) (h : k ≤ 8) : pw k ≤ 256 := by
  rcases (by omega : k = 0 ∨ k = 1 ∨ k = 2 ∨ k = 3 ∨ k = 4 ∨ k = 5 ∨ k = 6 ∨ k = 7 ∨ k = 8) with rfl | rfl | rfl | rfl | rfl | rfl | rfl | rfl | rfl <;> decide
theorem ret_int {k : IntKind} {a b : Int} (h : a = b) : Ending.returned (.int k a) = .returned (.int k b) := by rw [h]
theorem wraps_i64_40 (n : Int) (h₀ : 0 ≤ n) (h₁ : n < 2 ^ 40) : IntKind.i64.wrap n = n := by rw [IntKind.wrap_i64]; omega
theorem i64_mask (i : Nat) (hi : i ≤ 40) (x : Int) (h₀ : 0 ≤ x) (h₁ : x < 2 ^ 40) : bits .and .i64 x (2 ^ i - 1) = x % 2 ^ i := bits_mask .i64 40 (by decide) wraps_i64_40 i hi x h₀ h₁
theorem and7 (x : Int) (h₀ : 0 ≤ x) (h₁ : x ≤ 255) : bits .and .i64 x 7 = x % 8 := i64_mask 3 (by decide) x h₀ (by omega)
theorem and15 (x : Int) (h₀ : 0 ≤ x) (h₁ : x ≤ 255) : bits .and .i64 x 15 = x % 16 := i64_mask 4 (by decide) x h₀ (by omega)
theorem and31 (x : Int) (h₀ : 0 ≤ x) (h₁ : x ≤ 255) : bits .and .i64 x 31 = x % 32 := i64_mask 5 (by decide) x h₀ (by omega)
theorem and63 (x : Int) (h₀ : 0 ≤ x) (h₁ : x ≤ 255) : bits .and .i64 x 63 = x % 64 := i64_mask 6 (by decide) x h₀ (by omega)
theorem and127 (x : Int) (h₀ : 0 ≤ x) (h₁ : x ≤ 255) : bits .and .i64 x 127 = x % 128 := i64_mask 7 (by decide) x h₀ (by omega)
theorem i64_xor_bd (x y : Int) (h₀ : 0 ≤ x) (h₁ : x < 2 ^ 40) (g₀ : 0 ≤ y) (g₁ : y < 2 ^ 40) : 0 ≤ bits .xor .i64 x y ∧ bits .xor .i64 x y < 2 ^ 40 := by
  obtain ⟨a, rfl⟩ := Int.eq_ofNat_of_zero_le h₀
  obtain ⟨b, rfl⟩ := Int.eq_ofNat_of_zero_le g₀
  have ha : a < 2 ^ 40 := by omega
  have hb : b < 2 ^ 40 := by omega
  have hx : a ^^^ b < 2 ^ 40 := Nat.xor_lt_two_pow ha hb
  have ha' : a % 2 ^ 64 = a := Nat.mod_eq_of_lt (by omega)
  have hb' : b % 2 ^ 64 = b := Nat.mod_eq_of_lt (by omega)
  have e : bits .xor .i64 (a : Int) (b : Int) = ((a ^^^ b : Nat) : Int) := by
    show IntKind.i64.wrap ((BitVec.ofInt 64 a ^^^ BitVec.ofInt 64 b).toNat : Nat) = _
    rw [BitVec.toNat_xor, BitVec.ofInt_natCast, BitVec.ofInt_natCast, BitVec.toNat_ofNat, BitVec.toNat_ofNat, ha', hb']
    exact wraps_i64_40 _ (Int.natCast_nonneg _) (by omega)
  rw [e]
  omega
theorem isEmpty_false {s : ByteArray} (h : 0 < s.size) : s.toList.isEmpty = false := by
  rw [ByteArray.toList_eq]
  have : s.data.toList.length = s.size := by simp
  cases hd : s.data.toList with
  | nil => rw [hd] at this; simp at this; omega
  | cons a l => rfl
/-- A reader of numbers, in memory. -/
structure Rd (w : World) (b : Nat) (top num unit : Int) : Prop where
  c0 : w.cell? ⟨b, 0, none⟩ = some (.int .i64 top)
  c1 : w.cell? ⟨b, 1, none⟩ = some (.int .i64 num)
  c2 : w.cell? ⟨b, 2, none⟩ = some (.int .i64 unit)
  f1 : w.frozen? ⟨b, 1, none⟩ = false
  f2 : w.frozen? ⟨b, 2, none⟩ = false
theorem ret3 {a a' b b' : Int} {c : Bool} (h : a = a') (h' : b = b') : Ending.returned (.tuple #[.int .i64 a, .int .i64 b, .bool c]) = .returned (.tuple #[.int .i64 a', .int .i64 b', .bool c]) := by rw [h, h']
theorem rd_alloc (w : World) (t : TypeId) (a b c : Int) : Rd (w.alloc (.cells #[.int .i64 a, .int .i64 b, .int .i64 c] t)) w.heap.size a b c := by
  refine ⟨?_, ?_, ?_, ?_, ?_⟩ <;> simp
theorem keep_cell {B b o : Nat} {w w' : World} {v : Value} (hb : Below B w w') (hB : b < B) (h : w.cell? ⟨b, o, none⟩ = some v) : w'.cell? ⟨b, o, none⟩ = some v := (hb.cell (p := ⟨b, o, none⟩) hB).trans h

/-- The bytes of a text, as numbers. -/
def bytesL (s : ByteArray) : List Int := s.data.toList.map fun c => (c.toNat : Int)
theorem bytesL_length (s : ByteArray) : (bytesL s).length = s.size := by simp [bytesL]
theorem bytesL_at (s : ByteArray) (k : Nat) (h : k < s.size) : ((s[k]'h).toNat : Int) = (bytesL s)[k]'(by rw [bytesL_length]; exact h) := by
  simp [bytesL]; rfl
theorem bytesL_bd (s : ByteArray) : ∀ x ∈ bytesL s, 0 ≤ x ∧ x ≤ 255 := by
  intro x hx
  obtain ⟨c, _, rfl⟩ := List.mem_map.1 hx
  have := c.toNat_lt
  omega
theorem strOfNums_bytesL (s : ByteArray) : strOfNums (bytesL s) = s := by
  have e : ((fun n : Int => UInt8.ofNat n.toNat) ∘ fun c : UInt8 => (c.toNat : Int)) = id := by funext c; simp
  apply ByteArray.ext
  show ((s.data.toList.map fun c => (c.toNat : Int)).map fun n => UInt8.ofNat n.toNat).toArray = s.data
  rw [List.map_map, e, List.map_id]
theorem bytesL_strOfNums (l : List Int) (h : ∀ x ∈ l, 0 ≤ x ∧ x ≤ 255) : bytesL (strOfNums l) = l := by
  simp only [bytesL, strOfNums, List.map_map]
  refine (List.map_congr_left (g := id) ?_).trans (List.map_id l)
  intro x hx
  have := h x hx
  simp
  omega
theorem bytesL_append (a b : ByteArray) : bytesL (a ++ b) = bytesL a ++ bytesL b := by
  simp [bytesL, ByteArray.data_append]
theorem bytesL_inj {a b : ByteArray} (h : bytesL a = bytesL b) : a = b := by
  rw [← strOfNums_bytesL a, ← strOfNums_bytesL b, h]
theorem bytesL_extract (s : ByteArray) (i j : Nat) : bytesL (s.extract i j) = ((bytesL s).take j).drop i := by
  simp [bytesL, ByteArray.data_extract, List.extract_eq_take_drop, List.map_take, List.map_drop, List.drop_take]
theorem extract_take (s : ByteArray) (k : Nat) : s.extract 0 k = strOfNums ((bytesL s).take k) := by
  rw [← strOfNums_bytesL (s.extract 0 k), bytesL_extract]; rfl
theorem eqT {a b : ByteArray} (h : a = b) : (a.toList == b.toList) = true := by subst h; simp
theorem neF {a b : ByteArray} (h : a ≠ b) : (a.toList == b.toList) = false := by
  rw [ByteArray.toList_eq, ByteArray.toList_eq]
  by_cases e : a.data.toList = b.data.toList
  · exact absurd (ByteArray.ext (Array.toList_inj.1 e)) h
  · exact beq_eq_false_iff_ne.2 e
theorem strOfNums_ne {a b : List Int} (h : a.length ≠ b.length) : strOfNums a ≠ strOfNums b := by
  intro e
  apply h
  rw [← strOfNums_size a, ← strOfNums_size b, e]

/-- The number at the beginning of bytes; P: one more than the greatest number of its bits. -/
def rd (P : Int) : List Int → Int × Int × Bool
  | [] => (0, 0, false)
  | [a] => if a % P < P - 1 then (a % P, 1, true) else (0, 0, false)
  | [a, b] => if a % P < P - 1 then (a % P, 1, true) else if b < 128 then (P - 1 + b, 2, true) else (0, 0, false)
  | a :: b :: c :: _ => if a % P < P - 1 then (a % P, 1, true) else if b < 128 then (P - 1 + b, 2, true)
    else if 128 ≤ c ∨ c = 0 ∨ 9999 < P - 1 + (b - 128) + 128 * c then (0, 0, false) else (P - 1 + (b - 128) + 128 * c, 3, true)
/-- What NumRead answers. -/
def rdV (s : ByteArray) (bits : Int) : Int × Int × Bool := if 3 ≤ bits ∧ bits ≤ 7 then rd (pw bits) (bytesL s) else (0, 0, false)
def tupV (r : Int × Int × Bool) : Value := .tuple #[.int .i64 r.1, .int .i64 r.2.1, .bool r.2.2]
theorem of_cons {s : ByteArray} {l : List Int} {k : Nat} {x : Int} (h : bytesL s = l) (hx : l[k]? = some x) : ∃ hk : k < s.size, ((s[k]'hk).toNat : Int) = x ∧ 0 ≤ x ∧ x ≤ 255 := by
  have hk : k < s.size := by
    rw [← bytesL_length s, h]
    exact (List.getElem?_eq_some_iff.1 hx).1
  have e : ((s[k]'hk).toNat : Int) = x := by
    rw [bytesL_at]
    subst h
    obtain ⟨_, h2⟩ := List.getElem?_eq_some_iff.1 hx
    exact h2
  refine ⟨hk, e, ?_⟩
  exact bytesL_bd s x (by rw [h]; exact List.mem_of_getElem? hx)
theorem rd1 (P a : Int) : rd P [a] = if a % P < P - 1 then (a % P, 1, true) else (0, 0, false) := rfl
theorem rd2 (P a b : Int) : rd P [a, b] = if a % P < P - 1 then (a % P, 1, true) else if b < 128 then (P - 1 + b, 2, true) else (0, 0, false) := rfl
theorem rd3 (P a b c : Int) (t : List Int) : rd P (a :: b :: c :: t) = if a % P < P - 1 then (a % P, 1, true) else if b < 128 then (P - 1 + b, 2, true) else if 128 ≤ c ∨ c = 0 ∨ 9999 < P - 1 + (b - 128) + 128 * c then (0, 0, false) else (P - 1 + (b - 128) + 128 * c, 3, true) := rfl
theorem min_bd (n : Int) : ∃ m, (if 3 < n then (3 : Int) else n) = m ∧ m ≤ 3 ∧ m ≤ n ∧ (m = 3 ∨ m = n) := by
  by_cases h : 3 < n
  · exact ⟨3, by simp [h], by omega, by omega, by omega⟩
  · exact ⟨n, by simp [h], by omega, by omega, by omega⟩
theorem pw_bd (v : Int) (h0 : 3 ≤ v) (h1 : v ≤ 7) : 8 ≤ pw v ∧ pw v ≤ 128 := by
  rcases bits_cases h0 h1 with rfl | rfl | rfl | rfl | rfl <;> decide
theorem pw_bd2 (v : Int) (h0 : 1 ≤ v) (h1 : v ≤ 5) : 2 ≤ pw v ∧ pw v ≤ 32 := by
  rcases (by omega : v = 1 ∨ v = 2 ∨ v = 3 ∨ v = 4 ∨ v = 5) with rfl | rfl | rfl | rfl | rfl <;> decide
/-- In what a number is written. -/
def nOk (n bits head : Int) : Prop := 3 ≤ bits ∧ bits ≤ 7 ∧ 0 ≤ n ∧ n ≤ 9999 ∧ 0 ≤ head ∧ head < pw (8 - bits)
end Go.Proofs.Ytafhpcgdlmkbeay
