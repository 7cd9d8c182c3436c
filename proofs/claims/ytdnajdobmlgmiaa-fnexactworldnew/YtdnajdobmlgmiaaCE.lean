import Derived.Test.YtdnajdobmlgmiaaBA
import Derived.Deep.RegionHeld3
import Derived.Laws.Rows
import Derived.Deep.WholeRow
import Derived.Test.YtdnajdobmlgmiaaPick
import Derived.ChangeArms
import Derived.DataReads
import Derived.Deep.Slices
namespace Go.Proofs.Ytdnajdobmlgmiaa
open Go.RowKit
set_option linter.unusedVariables false

/-- A frame. -/
structure Fr where
  k : Int
  l : Bool
  s : Int
  b : ByteArray
def Fr.val (f : Fr) : Value := .agg #[.int .i64 f.k, .bool f.l, .int .i64 f.s, .string f.b]
def zFr : Fr := ⟨0, false, 0, ⟨#[]⟩⟩
def strm (n : Int) : Bool := decide (1 ≤ n ∧ n ≤ 7 ∧ n % 2 = 1)
def b0of (b : ByteArray) : Int := (bytesL b).headD 0
def moreB (b : ByteArray) : Bool := decide (b.size = 1 ∧ 1 ≤ b0of b ∧ b0of b ≤ 31)
def frOk (f : Fr) : Bool :=
  if f.k = 0 ∨ f.k = 1 then strm f.s && decide (f.b.size ≤ 200)
  else if f.k = 3 then strm f.s && (!f.l && decide (f.b.size = 0))
  else if f.k = 8 then (decide (f.s = 0) || strm f.s) && (!f.l && moreB f.b)
  else false
def lastI (l : Bool) : Int := if l then 1 else 0
def frL (f : Fr) : List Int := (f.b.size : Int) :: f.k :: lastI f.l :: f.s :: bytesL f.b
def frB (f : Fr) : ByteArray := strOfNums (frL f)
def frWr (f : Fr) : ByteArray := if frOk f then frB f else ⟨#[]⟩
def rdFr (l : List Int) : Fr × Int × Int :=
  match l with
  | n :: k :: t :: s :: r =>
    if 200 < n ∨ 1 < t then (zFr, 0, -1)
    else if (r.length : Int) < n then (zFr, 0, 0)
    else if frOk ⟨k, t == 1, s, strOfNums (r.take n.toNat)⟩ then (⟨k, t == 1, s, strOfNums (r.take n.toNat)⟩, 4 + n, 1)
    else (zFr, 0, -1)
  | _ => (zFr, 0, 0)
def frRd (s : ByteArray) : Fr × Int × Int := rdFr (bytesL s)

theorem rdFr_four (n k t s : Int) (r : List Int) : rdFr (n :: k :: t :: s :: r) = if 200 < n ∨ 1 < t then (zFr, 0, -1) else if (r.length : Int) < n then (zFr, 0, 0) else if frOk ⟨k, t == 1, s, strOfNums (r.take n.toNat)⟩ then (⟨k, t == 1, s, strOfNums (r.take n.toNat)⟩, 4 + n, 1) else (zFr, 0, -1) := rfl
theorem strm_bd {n : Int} (h : strm n = true) : 1 ≤ n ∧ n ≤ 7 ∧ n % 2 = 1 := by unfold strm at h; exact of_decide_eq_true h
/-- What a frame that is ok is. -/
theorem frOk_parts {f : Fr} (h : frOk f = true) : ((f.k = 0 ∨ f.k = 1) ∧ strm f.s = true ∧ f.b.size ≤ 200) ∨ (f.k = 3 ∧ strm f.s = true ∧ f.l = false ∧ f.b.size = 0) ∨ (f.k = 8 ∧ (f.s = 0 ∨ strm f.s = true) ∧ f.l = false ∧ moreB f.b = true) := by
  unfold frOk at h
  split at h
  · rename_i hk
    rw [Bool.and_eq_true, decide_eq_true_eq] at h
    exact .inl ⟨hk, h.1, h.2⟩
  · split at h
    · rename_i hk
      rw [Bool.and_eq_true, Bool.and_eq_true, decide_eq_true_eq] at h
      exact .inr (.inl ⟨hk, h.1, by simpa using h.2.1, h.2.2⟩)
    · split at h
      · rename_i hk
        rw [Bool.and_eq_true, Bool.and_eq_true, Bool.or_eq_true, decide_eq_true_eq] at h
        exact .inr (.inr ⟨hk, h.1, by simpa using h.2.1, h.2.2⟩)
      · cases h
theorem moreB_parts {b : ByteArray} (h : moreB b = true) : b.size = 1 ∧ 1 ≤ b0of b ∧ b0of b ≤ 31 := by unfold moreB at h; exact of_decide_eq_true h
theorem frOk_bd {f : Fr} (h : frOk f = true) : 0 ≤ f.k ∧ f.k ≤ 8 ∧ 0 ≤ f.s ∧ f.s ≤ 7 ∧ f.b.size ≤ 200 := by
  rcases frOk_parts h with ⟨h1, h2, h3⟩ | ⟨h1, h2, h3, h4⟩ | ⟨h1, h2, h3, h4⟩
  · have := strm_bd h2; omega
  · have := strm_bd h2; omega
  · have h5 := moreB_parts h4
    rcases h2 with h2 | h2
    · omega
    · have := strm_bd h2; omega
theorem lastI_bd (l : Bool) : 0 ≤ lastI l ∧ lastI l ≤ 1 := by cases l <;> decide
theorem lastI_eq (l : Bool) : (lastI l == 1) = l := by cases l <;> rfl
theorem frL_bd {f : Fr} (h : frOk f = true) : ∀ x ∈ frL f, 0 ≤ x ∧ x ≤ 255 := by
  have hb := frOk_bd h
  have hl := lastI_bd f.l
  intro x hx
  simp only [frL, List.mem_cons] at hx
  rcases hx with rfl | rfl | rfl | rfl | hx
  · omega
  · omega
  · omega
  · omega
  · exact bytesL_bd f.b x hx
theorem bytesL_frB {f : Fr} (h : frOk f = true) : bytesL (frB f) = frL f := bytesL_strOfNums _ (frL_bd h)
theorem frL_length (f : Fr) : (frL f).length = 4 + f.b.size := by simp only [frL, List.length_cons, bytesL_length]; omega
theorem frB_size (f : Fr) : (frB f).size = 4 + f.b.size := by unfold frB; rw [strOfNums_size, frL_length]
theorem frWr_ok {f : Fr} (h : frOk f = true) : frWr f = frB f := by unfold frWr; rw [if_pos h]
theorem frWr_bad {f : Fr} (h : frOk f = false) : frWr f = ⟨#[]⟩ := by unfold frWr; rw [if_neg (by rw [h]; decide)]
theorem frWr_size (f : Fr) : (frWr f).size ≤ 204 := by
  cases h : frOk f with
  | false => rw [frWr_bad h]; decide
  | true => rw [frWr_ok h, frB_size]; have := frOk_bd h; omega
/-- A frame is read back, whatever follows. -/
theorem rd_back {f : Fr} (h : frOk f = true) (t : List Int) : rdFr (frL f ++ t) = (f, 4 + (f.b.size : Int), 1) := by
  have hb := frOk_bd h
  have hl := lastI_bd f.l
  have ht : ((bytesL f.b ++ t).take (f.b.size : Int).toNat) = bytesL f.b := by
    rw [Int.toNat_natCast, ← bytesL_length, List.take_left]
  show rdFr ((f.b.size : Int) :: f.k :: lastI f.l :: f.s :: (bytesL f.b ++ t)) = _
  rw [rdFr_four, if_neg (by omega), if_neg (by rw [List.length_append, bytesL_length]; omega), ht, strOfNums_bytesL, lastI_eq, if_pos h]
/-- What is read is ok, and the bytes are its own. -/
theorem rd_strict {l : List Int} (hl : ∀ x ∈ l, 0 ≤ x ∧ x ≤ 255) {f : Fr} {u : Int} (h : rdFr l = (f, u, 1)) : frOk f = true ∧ u = 4 + (f.b.size : Int) ∧ ∃ r, l = frL f ++ r := by
  unfold rdFr at h
  split at h
  · rename_i n k t s r
    split at h
    · injection h with h1 h2; injection h2 with h2 h3; cases h3
    · rename_i h1
      split at h
      · injection h with h1 h2; injection h2 with h2 h3; cases h3
      · rename_i h2
        split at h
        · rename_i hk
          have hn := hl n (by simp)
          have ht := hl t (by simp)
          injection h with e1 e2
          injection e2 with e2 _
          have hsz : ((strOfNums (r.take n.toNat)).size : Int) = n := by rw [strOfNums_size, List.length_take]; omega
          have hby : bytesL (strOfNums (r.take n.toNat)) = r.take n.toNat := bytesL_strOfNums _ (fun x hx => hl x (by simp only [List.mem_cons]; exact .inr (.inr (.inr (.inr (List.mem_of_mem_take hx))))))
          have hlt : lastI (t == 1) = t := by
            rcases (by omega : t = 0 ∨ t = 1) with rfl | rfl <;> rfl
          subst e1
          refine ⟨hk, ?_, r.drop n.toNat, ?_⟩
          · rw [← e2]; show 4 + n = 4 + ((strOfNums (r.take n.toNat)).size : Int); rw [hsz]
          · show n :: k :: t :: s :: r = ((strOfNums (r.take n.toNat)).size : Int) :: k :: lastI (t == 1) :: s :: (bytesL (strOfNums (r.take n.toNat)) ++ r.drop n.toNat)
            rw [hsz, hlt, hby, List.take_append_drop]
        · injection h with h1 h2; injection h2 with h2 h3; cases h3
  · injection h with h1 h2; injection h2 with h2 h3; cases h3
/-- A frame of which bytes lack lacks bytes. -/
theorem rd_lack {f : Fr} (h : frOk f = true) {k : Nat} (hk : k < (frL f).length) : rdFr ((frL f).take k) = (zFr, 0, 0) := by
  have hb := frOk_bd h
  have hl := lastI_bd f.l
  rw [frL_length] at hk
  rcases (show k = 0 ∨ k = 1 ∨ k = 2 ∨ k = 3 ∨ ∃ j, k = j + 4 ∧ j < f.b.size by
    by_cases h4 : k < 4
    · omega
    · exact .inr (.inr (.inr (.inr ⟨k - 4, by omega, by omega⟩)))) with rfl | rfl | rfl | rfl | ⟨j, rfl, hj⟩
  · rfl
  · rfl
  · rfl
  · rfl
  · show rdFr ((f.b.size : Int) :: f.k :: lastI f.l :: f.s :: (bytesL f.b).take j) = _
    rw [rdFr_four, if_neg (by omega), if_pos (by rw [List.length_take, bytesL_length]; omega)]
/-- Bytes of ok frames: none begins with all bytes of another one. -/
theorem fr_begin {f g : Fr} (hf : frOk f = true) (hg : frOk g = true) {r : List Int} (h : frL g = frL f ++ r) : f = g := by
  have h1 := rd_back hg []
  rw [List.append_nil, h, rd_back hf] at h1
  injection h1
theorem frL_inj {f g : Fr} (hf : frOk f = true) (hg : frOk g = true) (h : frL f = frL g) : f = g := fr_begin hf hg (r := []) (by rw [List.append_nil, h])
theorem frB_inj {f g : Fr} (hf : frOk f = true) (hg : frOk g = true) (h : frB f = frB g) : f = g := frL_inj hf hg (by rw [← bytesL_frB hf, ← bytesL_frB hg, h])
/-- One byte of the head being another one it is not the same frame. -/
theorem rd_bad {b c : List Int} {f : Fr} {u : Int} (hb : ∀ x ∈ b, 0 ≤ x ∧ x ≤ 255) (hc : ∀ x ∈ c, 0 ≤ x ∧ x ≤ 255) (h : rdFr b = (f, u, 1)) {k : Nat} (hk : k < 4) (hne : b[k]? ≠ c[k]?) : ¬ ((rdFr c).2.2 = 1 ∧ (rdFr c).1 = f) := by
  rintro ⟨h1, h2⟩
  obtain ⟨_, _, r, e⟩ := rd_strict hb h
  obtain ⟨⟨g, v, i⟩, hr⟩ : ∃ x, rdFr c = x := ⟨_, rfl⟩
  rw [hr] at h1 h2
  dsimp only at h1 h2
  subst h1
  subst h2
  obtain ⟨_, _, r', e'⟩ := rd_strict hc hr
  apply hne
  rw [e, e', List.getElem?_append_left (by rw [frL_length]; omega), List.getElem?_append_left (by rw [frL_length]; omega)]
/-- Reading, on bytes. -/
theorem frRd_back {f : Fr} (h : frOk f = true) (t : ByteArray) : frRd (frB f ++ t) = (f, 4 + (f.b.size : Int), 1) := by
  unfold frRd; rw [bytesL_append, bytesL_frB h]; exact rd_back h _
theorem frRd_own {f : Fr} (h : frOk f = true) : frRd (frB f) = (f, 4 + (f.b.size : Int), 1) := by
  unfold frRd; rw [bytesL_frB h]; have := rd_back h []; rwa [List.append_nil] at this
theorem frRd_strict {s : ByteArray} {f : Fr} {u : Int} (h : frRd s = (f, u, 1)) : frOk f = true ∧ u = 4 + (f.b.size : Int) ∧ 4 + f.b.size ≤ s.size ∧ frB f = s.extract 0 (4 + f.b.size) := by
  obtain ⟨h1, h2, r, e⟩ := rd_strict (bytesL_bd s) h
  refine ⟨h1, h2, ?_, ?_⟩
  · rw [← bytesL_length s, e, List.length_append, frL_length]; omega
  · rw [extract_take, e, ← frL_length, List.take_left]; rfl
theorem frRd_lack {f : Fr} (h : frOk f = true) {k : Nat} (hk : k < 4 + f.b.size) : frRd ((frB f).extract 0 k) = (zFr, 0, 0) := by
  unfold frRd
  rw [bytesL_extract, bytesL_frB h]
  exact rd_lack h (by rw [frL_length]; exact hk)
theorem frRd_none : frRd ⟨#[]⟩ = (zFr, 0, 0) := rfl
theorem frRd_used (s : ByteArray) : 0 ≤ (frRd s).2.1 ∧ (frRd s).2.1 ≤ 204 ∧ (frRd s).1.b.size ≤ 200 ∧ -1 ≤ (frRd s).2.2 ∧ (frRd s).2.2 ≤ 1 ∧ ((frRd s).2.1 ≤ s.size) := by
  obtain ⟨⟨f, u, i⟩, hr⟩ : ∃ x, frRd s = x := ⟨_, rfl⟩
  by_cases hi : i = 1
  · subst hi
    obtain ⟨h1, h2, h3, _⟩ := frRd_strict hr
    have := frOk_bd h1
    rw [hr]; dsimp only; omega
  · have h : (f, u, i) = (zFr, 0, 0) ∨ (f, u, i) = (zFr, 0, -1) := by
      rw [← hr]
      unfold frRd rdFr
      unfold frRd rdFr at hr
      split at hr
      · split at hr
        · rename_i h0
          rw [if_pos h0]; exact .inr rfl
        · rename_i h0
          rw [if_neg h0]
          split at hr
          · rename_i h1
            rw [if_pos h1]; exact .inl rfl
          · rename_i h1
            rw [if_neg h1]
            split at hr
            · injection hr with _ e2; injection e2 with _ e3; exact absurd e3.symm hi
            · rename_i h2
              rw [if_neg h2]; exact .inr rfl
      · exact .inl rfl
    rcases h with h | h
    · rw [hr, h]; simp [zFr]; decide
    · rw [hr, h]; simp [zFr]; decide
end Go.Proofs.Ytdnajdobmlgmiaa

namespace Go.Proofs.Ytdnajdobmlgmiaa
open Go.RowKit
set_option linter.unusedVariables false

theorem ret_boolF {a b : Bool} (h : a = b) : Ending.returned (.bool a) = .returned (.bool b) := by rw [h]
theorem isEmptyT {s : ByteArray} (h : s.size = 0) : s.toList.isEmpty = true := by
  have : s = ⟨#[]⟩ := by
    apply ByteArray.ext
    exact Array.eq_empty_of_size_eq_zero h
  rw [this]; decide +kernel
theorem frOk_01 {k s : Int} {l : Bool} {b : ByteArray} (h : k = 0 ∨ k = 1) : frOk ⟨k, l, s, b⟩ = (strm s && decide (b.size ≤ 200)) := by unfold frOk; rw [if_pos h]
theorem frOk_3 {s : Int} {l : Bool} {b : ByteArray} : frOk ⟨3, l, s, b⟩ = (strm s && (!l && decide (b.size = 0))) := by unfold frOk; rw [if_neg (by show ¬ ((3 : Int) = 0 ∨ (3 : Int) = 1); decide), if_pos rfl]
theorem frOk_8 {s : Int} {l : Bool} {b : ByteArray} : frOk ⟨8, l, s, b⟩ = ((decide (s = 0) || strm s) && (!l && moreB b)) := by unfold frOk; rw [if_neg (by show ¬ ((8 : Int) = 0 ∨ (8 : Int) = 1); decide), if_neg (by show ¬ (8 : Int) = 3; decide), if_pos rfl]
theorem frOk_no {k s : Int} {l : Bool} {b : ByteArray} (h0 : ¬ k = 0) (h1 : ¬ k = 1) (h3 : ¬ k = 3) (h8 : ¬ k = 8) : frOk ⟨k, l, s, b⟩ = false := by
  unfold frOk
  rw [if_neg (by rintro (h | h) <;> contradiction), if_neg h3, if_neg h8]
theorem b0of_at {b : ByteArray} (h : 0 < b.size) : ((b[0]'h).toNat : Int) = b0of b := by
  rw [bytesL_at]
  unfold b0of
  rw [List.headD_eq_head?_getD, List.head?_eq_getElem?, List.getElem?_eq_getElem (by rw [bytesL_length]; exact h)]
  rfl
theorem b0of_bd (b : ByteArray) : 0 ≤ b0of b ∧ b0of b ≤ 255 := by
  unfold b0of
  cases h : bytesL b with
  | nil => decide
  | cons x t => exact bytesL_bd b x (by rw [h]; simp)

set_option maxRecDepth 100000 in
set_option maxHeartbeats 400000 in
theorem l6InF (n a b : Int) (w : World) :
    Calls Try.prog 59 #[.int .i64 n, .int .i64 a, .int .i64 b] w fun e w' => e = .returned (.bool (decide (a ≤ n) && decide (n ≤ b))) ∧ w' = w := by
  by_cases h1 : a ≤ n
  · by_cases h2 : n ≤ b
    · go_enter Try.func59, Try.ntmps59
      go_wp2
      go_ret
      exact ⟨ret_boolF (by first | (simp; done) | (simp; omega)), rfl⟩
    · have h2' : b < n := by omega
      go_enter Try.func59, Try.ntmps59
      go_wp2
      go_ret
      exact ⟨ret_boolF (by first | (simp; done) | (simp; omega)), rfl⟩
  · have h1' : n < a := by omega
    go_enter Try.func59, Try.ntmps59
    go_wp2
    go_ret
    exact ⟨ret_boolF (by first | (simp; done) | (simp; omega)), rfl⟩
theorem l6In_yes (n a b : Int) (w : World) (h : a ≤ n ∧ n ≤ b) : Calls Try.prog 59 #[.int .i64 n, .int .i64 a, .int .i64 b] w fun e w' => e = .returned (.bool true) ∧ w' = w := by
  have := l6InF n a b w
  rwa [decide_eq_true h.1, decide_eq_true h.2] at this
theorem l6In_no (n a b : Int) (w : World) (h : ¬ (a ≤ n ∧ n ≤ b)) : Calls Try.prog 59 #[.int .i64 n, .int .i64 a, .int .i64 b] w fun e w' => e = .returned (.bool false) ∧ w' = w := by
  have := l6InF n a b w
  rwa [show (decide (a ≤ n) && decide (n ≤ b)) = false by rw [← Bool.decide_and]; exact decide_eq_false h] at this

set_option maxRecDepth 100000 in
set_option maxHeartbeats 400000 in
theorem l12Stream_any (n : Int) (w : World) :
    Calls Try.prog 58 #[.int .i64 n] w fun e w' => e = .returned (.bool (strm n)) ∧ w' = w := by
  by_cases h : 1 ≤ n ∧ n ≤ 7
  · have hc := l6In_yes n 1 7
    rcases (by omega : n = 1 ∨ n = 2 ∨ n = 3 ∨ n = 4 ∨ n = 5 ∨ n = 6 ∨ n = 7) with rfl | rfl | rfl | rfl | rfl | rfl | rfl
    all_goals
      go_enter Try.func58, Try.ntmps58
      go_wp2_with (go_at_call 59; refine (hc _ h).mono ?_; rintro e w' ⟨rfl, rfl⟩)
      go_ret
      exact ⟨ret_boolF (by decide), rfl⟩
  · have hc := l6In_no n 1 7
    have hs : strm n = false := by unfold strm; exact decide_eq_false (by omega)
    rw [hs]
    clear hs
    go_enter Try.func58, Try.ntmps58
    go_wp2_with (go_at_call 59; refine (hc _ h).mono ?_; rintro e w' ⟨rfl, rfl⟩)
    go_ret
    exact ⟨rfl, rfl⟩

set_option maxRecDepth 100000 in
set_option maxHeartbeats 2000000 in
theorem specFrameOk (f : Fr) (w : World) (hb : f.b.size ≤ maxLen) :
    Calls Try.prog 38 #[f.val] w fun e w' => e = .returned (.bool (frOk f)) ∧ Below w.heap.size w w' := by
  obtain ⟨k, l, s, b⟩ := f
  unfold Fr.val
  unfold maxLen at hb
  dsimp only at hb ⊢
  have hst := fun w => l12Stream_any s w
  by_cases h0 : k = 0 ∨ k = 1
  · rw [frOk_01 h0]
    obtain ⟨T, hT⟩ : ∃ T, strm s = T := ⟨_, rfl⟩
    rw [hT] at hst ⊢
    clear hT
    by_cases hz : (b.size : Int) ≤ 200
    all_goals
      rcases h0 with rfl | rfl
      all_goals
        cases T
        all_goals
          go_enter Try.func38, Try.ntmps38
          go_wp2_with (go_at_call 58; refine (hst _).mono ?_; rintro e w' ⟨rfl, rfl⟩)
          go_ret
          exact ⟨ret_boolF (by first | rfl | (simp; omega) | simp), (Below.refl _ _).alloc (Nat.le_refl _) _⟩
  · by_cases h3 : k = 3
    · subst h3
      rw [frOk_3]
      obtain ⟨T, hT⟩ : ∃ T, strm s = T := ⟨_, rfl⟩
      rw [hT] at hst ⊢
      clear hT h0
      by_cases hz : b.size = 0
      · have he := isEmptyT hz
        rw [decide_eq_true hz]
        clear hz
        cases T <;> cases l
        all_goals
          go_enter Try.func38, Try.ntmps38
          go_wp2_with (go_at_call 58; refine (hst _).mono ?_; rintro e w' ⟨rfl, rfl⟩)
          go_ret
          exact ⟨ret_boolF (by first | rfl | simp), (Below.refl _ _).alloc (Nat.le_refl _) _⟩
      · have he := isEmpty_false (s := b) (by omega)
        rw [decide_eq_false hz]
        clear hz
        cases T <;> cases l
        all_goals
          go_enter Try.func38, Try.ntmps38
          go_wp2_with (go_at_call 58; refine (hst _).mono ?_; rintro e w' ⟨rfl, rfl⟩)
          go_ret
          exact ⟨ret_boolF (by first | rfl | simp), (Below.refl _ _).alloc (Nat.le_refl _) _⟩
    · by_cases h8 : k = 8
      · subst h8
        rw [frOk_8]
        obtain ⟨T, hT⟩ : ∃ T, strm s = T := ⟨_, rfl⟩
        have hT0 : s = 0 → T = false := by rintro rfl; rw [← hT]; decide
        rw [hT] at hst ⊢
        clear hT h0 h3
        by_cases hz : b.size = 1
        · have hz' : (b.size : Int) = 1 := by omega
          have hat := b0of_at (b := b) (by omega)
          have hbd := b0of_bd b
          by_cases hm : 1 ≤ b0of b ∧ b0of b ≤ 31
          · have hin := fun w => l6In_yes (b0of b) 1 31 w hm
            have hmo : moreB b = true := by unfold moreB; exact decide_eq_true ⟨hz, hm⟩
            rw [hmo]
            obtain ⟨x0, hx0⟩ : ∃ x, b0of b = x := ⟨_, rfl⟩
            rw [hx0] at hin hat hbd
            clear hmo hm hx0
            by_cases hs0 : s = 0
            · obtain rfl := hT0 hs0
              have hs0b : (s == 0) = true := by simp [hs0]
              rw [decide_eq_true hs0]
              cases l
              all_goals
                go_enter Try.func38, Try.ntmps38
                go_wp2_with (first | (go_at_call 58; refine (hst _).mono ?_; rintro e w' ⟨rfl, rfl⟩) | (go_at_call 59; refine (hin _).mono ?_; rintro e w' ⟨rfl, rfl⟩))
                go_ret
                exact ⟨ret_boolF (by first | rfl | simp), (Below.refl _ _).alloc (Nat.le_refl _) _⟩
            · have hs0b : (s == 0) = false := by simp [hs0]
              rw [decide_eq_false hs0]
              clear hT0
              cases T <;> cases l
              all_goals
                go_enter Try.func38, Try.ntmps38
                go_wp2_with (first | (go_at_call 58; refine (hst _).mono ?_; rintro e w' ⟨rfl, rfl⟩) | (go_at_call 59; refine (hin _).mono ?_; rintro e w' ⟨rfl, rfl⟩))
                go_ret
                exact ⟨ret_boolF (by first | rfl | simp), (Below.refl _ _).alloc (Nat.le_refl _) _⟩
          · have hin := fun w => l6In_no (b0of b) 1 31 w hm
            have hmo : moreB b = false := by unfold moreB; exact decide_eq_false (fun h => hm h.2)
            rw [hmo]
            obtain ⟨x0, hx0⟩ : ∃ x, b0of b = x := ⟨_, rfl⟩
            rw [hx0] at hin hat hbd
            clear hmo hm hx0
            by_cases hs0 : s = 0
            · obtain rfl := hT0 hs0
              have hs0b : (s == 0) = true := by simp [hs0]
              rw [decide_eq_true hs0]
              cases l
              all_goals
                go_enter Try.func38, Try.ntmps38
                go_wp2_with (first | (go_at_call 58; refine (hst _).mono ?_; rintro e w' ⟨rfl, rfl⟩) | (go_at_call 59; refine (hin _).mono ?_; rintro e w' ⟨rfl, rfl⟩))
                go_ret
                exact ⟨ret_boolF (by first | rfl | simp), (Below.refl _ _).alloc (Nat.le_refl _) _⟩
            · have hs0b : (s == 0) = false := by simp [hs0]
              rw [decide_eq_false hs0]
              clear hT0
              cases T <;> cases l
              all_goals
                go_enter Try.func38, Try.ntmps38
                go_wp2_with (first | (go_at_call 58; refine (hst _).mono ?_; rintro e w' ⟨rfl, rfl⟩) | (go_at_call 59; refine (hin _).mono ?_; rintro e w' ⟨rfl, rfl⟩))
                go_ret
                exact ⟨ret_boolF (by first | rfl | simp), (Below.refl _ _).alloc (Nat.le_refl _) _⟩
        · have hz' : ¬ (b.size : Int) = 1 := by omega
          have hzb : ((b.size : Int) == 1) = false := by simp; omega
          have hmo : moreB b = false := by unfold moreB; exact decide_eq_false (fun h => hz h.1)
          rw [hmo]
          clear hmo
          by_cases hs0 : s = 0
          · obtain rfl := hT0 hs0
            have hs0b : (s == 0) = true := by simp [hs0]
            rw [decide_eq_true hs0]
            cases l
            all_goals
              go_enter Try.func38, Try.ntmps38
              go_wp2_with (go_at_call 58; refine (hst _).mono ?_; rintro e w' ⟨rfl, rfl⟩)
              go_ret
              exact ⟨ret_boolF (by first | rfl | simp), (Below.refl _ _).alloc (Nat.le_refl _) _⟩
          · have hs0b : (s == 0) = false := by simp [hs0]
            rw [decide_eq_false hs0]
            clear hT0
            cases T <;> cases l
            all_goals
              go_enter Try.func38, Try.ntmps38
              go_wp2_with (go_at_call 58; refine (hst _).mono ?_; rintro e w' ⟨rfl, rfl⟩)
              go_ret
              exact ⟨ret_boolF (by first | rfl | simp), (Below.refl _ _).alloc (Nat.le_refl _) _⟩
      · rw [frOk_no (fun h => h0 (.inl h)) (fun h => h0 (.inr h)) h3 h8]
        have e0 : (k == 0) = false := by simp; omega
        have e1 : (k == 1) = false := by simp; omega
        have e3 : (k == 3) = false := by simp; omega
        have e8 : (k == 8) = false := by simp; omega
        clear hst h0 h3 h8
        go_enter Try.func38, Try.ntmps38
        go_wp2
        go_ret
        exact ⟨rfl, (Below.refl _ _).alloc (Nat.le_refl _) _⟩
end Go.Proofs.Ytdnajdobmlgmiaa

namespace Go.Proofs.Ytdnajdobmlgmiaa
open Go.RowKit
set_option linter.unusedVariables false

theorem keepF {w1 w2 : World} {p : Addr} {v : Value} (hb : Below w1.heap.size w1 w2) (h : w1.cell? p = some v) : w2.cell? p = some v := (hb.cell (World.block_lt_of_cell? w1 _ h)).trans h
theorem btF {w a b : World} (h1 : Below w.heap.size w a) (h2 : Below a.heap.size a b) : Below w.heap.size w b := h1.trans (h2.mono h1.size)
theorem frB_eq (k s : Int) (l : Bool) (b : ByteArray) : strOfNums [(b.size : Int)] ++ strOfNums [k] ++ strOfNums [lastI l] ++ strOfNums [s] ++ b = frB ⟨k, l, s, b⟩ := by
  conv => lhs; rw [← strOfNums_bytesL b]
  rw [strOfNums_append, strOfNums_append, strOfNums_append, strOfNums_append]
  unfold frB frL
  rw [strOfNums_bytesL]
  rfl

end Go.Proofs.Ytdnajdobmlgmiaa

namespace Go.Proofs.Ytdnajdobmlgmiaa
open Go.RowKit
set_option linter.unusedVariables false

theorem four_bytes {s : ByteArray} (h : 4 ≤ s.size) : ∃ x0 x1 x2 x3 r, bytesL s = x0 :: x1 :: x2 :: x3 :: r ∧ (r.length : Int) = s.size - 4 ∧ (∀ h, ((s[0]'h).toNat : Int) = x0) ∧ (∀ h, ((s[1]'h).toNat : Int) = x1) ∧ (∀ h, ((s[2]'h).toNat : Int) = x2) ∧ (∀ h, ((s[3]'h).toNat : Int) = x3) ∧ (0 ≤ x0 ∧ x0 ≤ 255) ∧ (0 ≤ x1 ∧ x1 ≤ 255) ∧ (0 ≤ x2 ∧ x2 ≤ 255) ∧ (0 ≤ x3 ∧ x3 ≤ 255) ∧ ∀ n, s.extract 4 (4 + n) = strOfNums (r.take n) := by
  have hl := bytesL_length s
  have hbd := bytesL_bd s
  match e : bytesL s, hl with
  | [], hl => simp at hl; omega
  | [_], hl => simp at hl; omega
  | [_, _], hl => simp at hl; omega
  | [_, _, _], hl => simp at hl; omega
  | x0 :: x1 :: x2 :: x3 :: r, hl =>
    rw [e] at hbd
    refine ⟨x0, x1, x2, x3, r, rfl, by simp at hl; omega, ?_, ?_, ?_, ?_, hbd _ (by simp), hbd _ (by simp), hbd _ (by simp), hbd _ (by simp), ?_⟩
    · intro h; rw [bytesL_at]; simp [e]
    · intro h; rw [bytesL_at]; simp [e]
    · intro h; rw [bytesL_at]; simp [e]
    · intro h; rw [bytesL_at]; simp [e]
    · intro n
      rw [← strOfNums_bytesL (s.extract 4 (4 + n)), bytesL_extract, e, Nat.add_comm 4 n]
      rfl
theorem frRd_short {s : ByteArray} (h : s.size < 4) : frRd s = (zFr, 0, 0) := by
  have hl := bytesL_length s
  unfold frRd
  match e : bytesL s, hl with
  | [], _ => rfl
  | [_], _ => rfl
  | [_, _], _ => rfl
  | [_, _, _], _ => rfl
  | _ :: _ :: _ :: _ :: _, hl => simp at hl; omega
theorem bcellF {W w1 : World} (hb : Below W.heap.size W w1) : (∀ b o, b < W.heap.size → w1.cell? ⟨b, o, none⟩ = W.cell? ⟨b, o, none⟩) ∧ (∀ b o, b < W.heap.size → w1.frozen? ⟨b, o, none⟩ = W.frozen? ⟨b, o, none⟩) :=
  ⟨fun b o h => hb.cell (p := ⟨b, o, none⟩) h, fun b o h => hb.frozen (p := ⟨b, o, none⟩) h⟩
theorem setc_heapF {W : World} {B : Nat} {cs : Array Value} {t : TypeId} (o : Nat) (v : Value) (h : W.heap[B]? = some (.cells cs t (0, 0))) : (W.setCell ⟨B, o, none⟩ v).heap[B]? = some (.cells (cs.setIfInBounds o v) t (0, 0)) := by
  obtain ⟨hlt, hk⟩ := Array.getElem?_eq_some_iff.1 h
  show (W.heap.modify B _)[B]? = _
  rw [Array.getElem?_eq_getElem (by rw [Array.size_modify]; exact hlt), Array.getElem_modify_self, hk]
  rfl
theorem set4_heap {W : World} {B : Nat} {a b c d : Value} {t : TypeId} (x y z u : Value) (h : W.heap[B]? = some (.cells #[a, b, c, d] t (0, 0))) : ((((W.setCell ⟨B, 0, none⟩ x).setCell ⟨B, 1, none⟩ y).setCell ⟨B, 2, none⟩ z).setCell ⟨B, 3, none⟩ u).heap[B]? = some (.cells #[x, y, z, u] t (0, 0)) := by
  have := setc_heapF 3 u (setc_heapF 2 z (setc_heapF 1 y (setc_heapF 0 x h)))
  simpa using this
theorem bel4 {n : Nat} {w W : World} {B : Nat} (h : Below n w W) (hB : n ≤ B) (x y z u : Value) : Below n w ((((W.setCell ⟨B, 0, none⟩ x).setCell ⟨B, 1, none⟩ y).setCell ⟨B, 2, none⟩ z).setCell ⟨B, 3, none⟩ u) :=
  (((h.setCell (p := ⟨B, 0, none⟩) hB _).setCell (p := ⟨B, 1, none⟩) hB _).setCell (p := ⟨B, 2, none⟩) hB _).setCell (p := ⟨B, 3, none⟩) hB _
theorem results_c2F {fn : Func} {p q r : Tmp} {ty : TypeId} (h : fn.results = #[.cell p ty, .tmp q, .tmp r]) (tmps : Array Value) (w : World) (g : Nat) (cs : Array Value)
    (hp : tmps.getD p undef = .pointer (some ⟨g, 0, none⟩)) (hl : (loadVar ty ⟨g, 0, none⟩).run Try.prog w = .ok (.agg cs) w) :
    (results fn tmps).run Try.prog w = .ok (.tuple #[.agg cs, tmps.getD q undef, tmps.getD r undef]) w := by
  have hp' : tmps[p]?.getD undef = .pointer (some ⟨g, 0, none⟩) := by simpa using hp
  simp [results, h, hp', asAddr, hl]
theorem blkTF {W : World} {B : Nat} {o : Obj} (h : W.heap[B]? = some o) (o' : Obj) : (W.alloc o').heap[B]? = some o := by
  have := (Array.getElem?_eq_some_iff.1 h).1
  show (W.heap.push o')[B]? = _
  rw [Array.getElem?_push, if_neg (by omega)]
  exact h
theorem infoFr4 : (Try.prog.info? 73).map (·.size) = some 4 := by kernel_rfl
theorem load_fr {w : World} {g : Nat} {x y z u : Value} (hg : w.heap[g]? = some (.cells #[x, y, z, u] 73 (0, 0))) : (loadVar 73 ⟨g, 0, none⟩).run Try.prog w = .ok (.agg #[x, y, z, u]) w :=
  run_loadVar_row w g 73 73 #[x, y, z, u] (0, 0) _ hg Try.underlying73 rfl infoFr4

end Go.Proofs.Ytdnajdobmlgmiaa

namespace Go.Proofs.Ytdnajdobmlgmiaa
open Go.RowKit
set_option linter.unusedVariables false

theorem cellF {W : World} {B : Nat} {cs : Array Value} {t : TypeId} (o : Nat) (v : Value) (h : W.heap[B]? = some (.cells cs t (0, 0))) (hv : cs[o]? = some v) : W.cell? ⟨B, o, none⟩ = some v := by
  simp [World.cell?, h, hv]
theorem row4c {W : World} {B : Nat} {a b c d : Value} {t : TypeId} (h : W.heap[B]? = some (.cells #[a, b, c, d] t (0, 0))) : W.cell? ⟨B, 0, none⟩ = some a ∧ W.cell? ⟨B, 1, none⟩ = some b ∧ W.cell? ⟨B, 2, none⟩ = some c ∧ W.cell? ⟨B, 3, none⟩ = some d :=
  ⟨cellF 0 _ h rfl, cellF 1 _ h rfl, cellF 2 _ h rfl, cellF 3 _ h rfl⟩
theorem blkF {w w' : World} {B : Nat} {o : Obj} (hb : Below w.heap.size w w') (h : w.heap[B]? = some o) : w'.heap[B]? = some o := (hb.block _ (Array.getElem?_eq_some_iff.1 h).1).trans h
theorem wabsF {p : Program} {c : Code} {Q : Exit → Act → World → Prop} {a : Act} {w : World} (P : World → Prop) (h : P w) (k : ∀ W, P W → Code.wp p c Q a W) : Code.wp p c Q a w := k w h
def eqFr (x y : Fr) : Bool := (x.k == y.k) && ((x.l == y.l) && ((x.s == y.s) && (x.b.toList == y.b.toList)))
theorem eqBF {a b : ByteArray} : (a.toList == b.toList) = true ↔ a = b := by
  constructor
  · intro h
    have e : a.toList = b.toList := eq_of_beq h
    rw [ByteArray.toList_eq, ByteArray.toList_eq] at e
    exact ByteArray.ext (Array.toList_inj.1 e)
  · rintro rfl; exact beq_self_eq_true _
theorem eqFr_iff {x y : Fr} : eqFr x y = true ↔ x = y := by
  unfold eqFr
  rw [Bool.and_eq_true, Bool.and_eq_true, Bool.and_eq_true, eqBF]
  cases x; cases y
  simp
theorem eqFr_self (x : Fr) : eqFr x x = true := eqFr_iff.2 rfl
theorem eqFr_no {x y : Fr} (h : x ≠ y) : eqFr x y = false := by
  cases e : eqFr x y with
  | false => rfl
  | true => exact absurd (eqFr_iff.1 e) h
set_option maxRecDepth 100000 in
theorem eqFr_run (x y : Fr) (w : World) : (Op.equalIn 10000 73 (.agg #[.int .i64 x.k, .bool x.l, .int .i64 x.s, .string x.b]) (.agg #[.int .i64 y.k, .bool y.l, .int .i64 y.s, .string y.b])).run Try.prog w = .ok (eqFr x y) w := by
  have hS : Try.prog.underlying 73 = some (.struct (Try.prog.fieldsOf 73)) := by kernel_rfl
  have hp : Try.prog.stoodInHeld 73 = false := by kernel_rfl
  rw [show (10000 : Nat) = 9999 + 1 from rfl, run_equalIn_agg w 9999 73 _ _ hS hp]
  simp only [Program.fieldsOf, Try.underlying73]
  unfold eqFr
  go_simp
  by_cases h1 : x.k = y.k <;> by_cases h2 : x.l = y.l <;> by_cases h3 : x.s = y.s <;> by_cases h4 : x.b.toList = y.b.toList <;> simp [h1, h2, h3, h4]
theorem ext_right (S T : ByteArray) : (S ++ T).extract S.size (S.size + T.size) = T := by
  rw [← strOfNums_bytesL ((S ++ T).extract S.size (S.size + T.size)), bytesL_extract, bytesL_append, ← bytesL_length S, ← bytesL_length T, ← List.length_append, List.take_length, List.drop_left, strOfNums_bytesL]
end Go.Proofs.Ytdnajdobmlgmiaa

namespace Go.Proofs.Ytdnajdobmlgmiaa
open Go.RowKit
set_option linter.unusedVariables false

set_option maxRecDepth 100000 in
theorem open_frame {H : Type} {enc : TypeId × Value → H} {W : World} {base : Nat} {sp : Nat → Bool} {held : Bool} {fuel : Nat} {cs : List Value} {x : DataW H × List MemPlace} (h : DataW.trod enc Try.prog W base sp held fuel 91 cs = some x) :
    ∃ f : Fr, cs = [.int .i64 f.k, .bool f.l, .int .i64 f.s, .string f.b] ∧ f.b.size ≤ maxLen := by
  obtain ⟨xs, n, _, _, hlen, hxl, hf⟩ := DataW.trod_struct Try.underlying91 h
  have hc4 : Try.prog.cellsOf 91 = 4 := by kernel_rfl
  have hcs : Try.prog.cellsOf 9 = 1 := by kernel_rfl
  have hcb : Try.prog.cellsOf 4 = 1 := by kernel_rfl
  have hci : Try.prog.cellsOf 3 = 1 := by kernel_rfl
  rw [hc4] at hlen
  match cs, hlen, xs, hxl with
  | [a, b, c, d], _, [y0, y1, y2, y3], _ =>
    have h0 := hf 0 _ rfl
    have h1 := hf 1 _ rfl
    have h2 := hf 2 _ rfl
    have h3 := hf 3 _ rfl
    simp [hcs, hcb, hci] at h0 h1 h2 h3
    obtain ⟨k, e0, _⟩ := DataW.trod_int Try.underlying3 h0
    obtain ⟨l, e1, _⟩ := DataW.trod_bool Try.underlying4 h1
    obtain ⟨s, e2, _⟩ := DataW.trod_int Try.underlying3 h2
    obtain ⟨b', e3, _, g3⟩ := DataW.trod_string Try.underlying9 h3
    simp at e0 e1 e2 e3
    subst e0 e1 e2 e3
    exact ⟨⟨k, l, s, b'⟩, rfl, g3⟩

set_option maxRecDepth 100000 in
set_option maxHeartbeats 400000 in
theorem szFrame_any (f : Fr) (left : Int) (w : World) (h : f.b.size ≤ maxLen) (l0 : 0 ≤ left) (l1 : left ≤ 1048576) :
    Calls Try.prog 57 #[.agg #[.int .i64 f.k, .bool f.l, .int .i64 f.s, .string f.b], .int .i64 left] w fun e w' => ∃ r : Int, e = .returned (.int .i64 r) ∧ (r = -1 ∨ (0 ≤ r ∧ r ≤ left ∧ (f.b.size : Int) ≤ left)) ∧ Below w.heap.size w w' := by
  unfold maxLen at h
  by_cases hz : (f.b.size : Int) ≤ left
  · have h1 : ¬ left - (f.b.size : Int) < 0 := by omega
    go_enter Try.func57, Try.ntmps57
    go_wp2
    go_ret
    exact ⟨left - (f.b.size : Int), rfl, Or.inr (by omega), (Below.refl _ _).alloc (Nat.le_refl _) _⟩
  · have h1 : left - (f.b.size : Int) < 0 := by omega
    have h2 : -9223372036854775808 ≤ left - (f.b.size : Int) := by omega
    go_enter Try.func57, Try.ntmps57
    go_wp2
    go_ret
    exact ⟨-1, rfl, Or.inl rfl, (Below.refl _ _).alloc (Nat.le_refl _) _⟩

set_option maxRecDepth 100000 in
set_option maxHeartbeats 400000 in
theorem toFrame_any (f : Fr) (w : World) :
    Calls Try.prog 66 #[.agg #[.int .i64 f.k, .bool f.l, .int .i64 f.s, .string f.b]] w fun e w' => e = .returned (.agg #[.int .i64 f.k, .bool f.l, .int .i64 f.s, .string f.b]) ∧ Below w.heap.size w w' := by
  go_enter Try.func66, Try.ntmps66
  go_wp2
  exact bodyPost_ret (v := .agg #[.int .i64 f.k, .bool f.l, .int .i64 f.s, .string f.b]) (by simp [results, Try.results66, go_sem]) rfl ⟨rfl, by go_grown⟩

set_option maxRecDepth 100000 in
set_option maxHeartbeats 400000 in
theorem eqFrame_same (f : Fr) (w : World) :
    Calls Try.prog 51 #[.agg #[.int .i64 f.k, .bool f.l, .int .i64 f.s, .string f.b], .agg #[.int .i64 f.k, .bool f.l, .int .i64 f.s, .string f.b]] w fun e w' => e = .returned (.bool true) ∧ Below w.heap.size w w' := by
  go_enter Try.func51, Try.ntmps51
  go_wp2
  go_ret
  exact ⟨rfl, by go_grown⟩
end Go.Proofs.Ytdnajdobmlgmiaa
