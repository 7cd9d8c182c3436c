import Derived.Test.YtpgcmjbmkjnjnaaBA
namespace Go.Proofs.Ytpgcmjbmkjnjnaa
open Go.RowKit
set_option linter.unusedVariables false

/-- A frame. -/
structure Fr where
  k : Int
  l : Bool
  s : Int
  b : ByteArray
def Fr.val (f : Fr) : Value := .agg #[.int .i64 f.k, .bool f.l, .int .i64 f.s, .string f.b]
def zFr : Fr := ⟨0, false, 0, ⟨#[]⟩⟩
def strm (n : Int) : Bool := decide (1 ≤ n ∧ n ≤ 7 ∧ n % 2 = 1)
def b0of (b : ByteArray) : Int := (bytesL b).headD 0
def moreB (b : ByteArray) : Bool := decide (b.size = 1 ∧ 1 ≤ b0of b ∧ b0of b ≤ 31)
def frOk (f : Fr) : Bool :=
  if f.k = 0 ∨ f.k = 1 then strm f.s && decide (f.b.size ≤ 200)
  else if f.k = 3 then strm f.s && (!f.l && decide (f.b.size = 0))
  else if f.k = 8 then (decide (f.s = 0) || strm f.s) && (!f.l && moreB f.b)
  else false
def lastI (l : Bool) : Int := if l then 1 else 0
def frL (f : Fr) : List Int := (f.b.size : Int) :: f.k :: lastI f.l :: f.s :: bytesL f.b
def frB (f : Fr) : ByteArray := strOfNums (frL f)
def frWr (f : Fr) : ByteArray := if frOk f then frB f else ⟨#[]⟩
def rdFr (l : List Int) : Fr × Int × Int :=
  match l with
  | n :: k :: t :: s :: r =>
    if 200 < n ∨ 1 < t then (zFr, 0, -1)
    else if (r.length : Int) < n then (zFr, 0, 0)
    else if frOk ⟨k, t == 1, s, strOfNums (r.take n.toNat)⟩ then (⟨k, t == 1, s, strOfNums (r.take n.toNat)⟩, 4 + n, 1)
    else (zFr, 0, -1)
  | _ => (zFr, 0, 0)
def frRd (s : ByteArray) : Fr × Int × Int := rdFr (bytesL s)

theorem rdFr_four (n k t s : Int) (r : List Int) : rdFr (n :: k :: t :: s :: r) = if 200 < n ∨ 1 < t then (zFr, 0, -1) else if (r.length : Int) < n then (zFr, 0, 0) else if frOk ⟨k, t == 1, s, strOfNums (r.take n.toNat)⟩ then (⟨k, t == 1, s, strOfNums (r.take n.toNat)⟩, 4 + n, 1) else (zFr, 0, -1) := rfl
theorem strm_bd {n : Int} (h : strm n = true) : 1 ≤ n ∧ n ≤ 7 ∧ n % 2 = 1 := by unfold strm at h; exact of_decide_eq_true h
/-- What a frame that is ok is. -/
theorem frOk_parts {f : Fr} (h : frOk f = true) : ((f.k = 0 ∨ f.k = 1) ∧ strm f.s = true ∧ f.b.size ≤ 200) ∨ (f.k = 3 ∧ strm f.s = true ∧ f.l = false ∧ f.b.size = 0) ∨ (f.k = 8 ∧ (f.s = 0 ∨ strm f.s = true) ∧ f.l = false ∧ moreB f.b = true) := by
  unfold frOk at h
  split at h
  · rename_i hk
    rw [Bool.and_eq_true, decide_eq_true_eq] at h
    exact .inl ⟨hk, h.1, h.2⟩
  · split at h
    · rename_i hk
      rw [Bool.and_eq_true, Bool.and_eq_true, decide_eq_true_eq] at h
      exact .inr (.inl ⟨hk, h.1, by simpa using h.2.1, h.2.2⟩)
    · split at h
      · rename_i hk
        rw [Bool.and_eq_true, Bool.and_eq_true, Bool.or_eq_true, decide_eq_true_eq] at h
        exact .inr (.inr ⟨hk, h.1, by simpa using h.2.1, h.2.2⟩)
      · cases h
theorem moreB_parts {b : ByteArray} (h : moreB b = true) : b.size = 1 ∧ 1 ≤ b0of b ∧ b0of b ≤ 31 := by unfold moreB at h; exact of_decide_eq_true h
theorem frOk_bd {f : Fr} (h : frOk f = true) : 0 ≤ f.k ∧ f.k ≤ 8 ∧ 0 ≤ f.s ∧ f.s ≤ 7 ∧ f.b.size ≤ 200 := by
  rcases frOk_parts h with ⟨h1, h2, h3⟩ | ⟨h1, h2, h3, h4⟩ | ⟨h1, h2, h3, h4⟩
  · have := strm_bd h2; omega
  · have := strm_bd h2; omega
  · have h5 := moreB_parts h4
    rcases h2 with h2 | h2
    · omega
    · have := strm_bd h2; omega
theorem lastI_bd (l : Bool) : 0 ≤ lastI l ∧ lastI l ≤ 1 := by cases l <;> decide
theorem lastI_eq (l : Bool) : (lastI l == 1) = l := by cases l <;> rfl
theorem frL_bd {f : Fr} (h : frOk f = true) : ∀ x ∈ frL f, 0 ≤ x ∧ x ≤ 255 := by
  have hb := frOk_bd h
  have hl := lastI_bd f.l
  intro x hx
  simp only [frL, List.mem_cons] at hx
  rcases hx with rfl | rfl | rfl | rfl | hx
  · omega
  · omega
  · omega
  · omega
  · exact bytesL_bd f.b x hx
theorem bytesL_frB {f : Fr} (h : frOk f = true) : bytesL (frB f) = frL f := bytesL_strOfNums _ (frL_bd h)
theorem frL_length (f : Fr) : (frL f).length = 4 + f.b.size := by simp only [frL, List.length_cons, bytesL_length]; omega
theorem frB_size (f : Fr) : (frB f).size = 4 + f.b.size := by unfold frB; rw [strOfNums_size, frL_length]
theorem frWr_ok {f : Fr} (h : frOk f = true) : frWr f = frB f := by unfold frWr; rw [if_pos h]
theorem frWr_bad {f : Fr} (h : frOk f = false) : frWr f = ⟨#[]⟩ := by unfold frWr; rw [if_neg (by rw [h]; decide)]
theorem frWr_size (f : Fr) : (frWr f).size ≤ 204 := by
  cases h : frOk f with
  | false => rw [frWr_bad h]; decide
  | true => rw [frWr_ok h, frB_size]; have := frOk_bd h; omega
/-- A frame is read back, whatever follows. -/
theorem rd_back {f : Fr} (h : frOk f = true) (t : List Int) : rdFr (frL f ++ t) = (f, 4 + (f.b.size : Int), 1) := by
  have hb := frOk_bd h
  have hl := lastI_bd f.l
  have ht : ((bytesL f.b ++ t).take (f.b.size : Int).toNat) = bytesL f.b := by
    rw [Int.toNat_natCast, ← bytesL_length, List.take_left]
  show rdFr ((f.b.size : Int) :: f.k :: lastI f.l :: f.s :: (bytesL f.b ++ t)) = _
  rw [rdFr_four, if_neg (by omega), if_neg (by rw [List.length_append, bytesL_length]; omega), ht, strOfNums_bytesL, lastI_eq, if_pos h]
/-- What is read is ok, and the bytes are its own. -/
theorem rd_strict {l : List Int} (hl : ∀ x ∈ l, 0 ≤ x ∧ x ≤ 255) {f : Fr} {u : Int} (h : rdFr l = (f, u, 1)) : frOk f = true ∧ u = 4 + (f.b.size : Int) ∧ ∃ r, l = frL f ++ r := by
  unfold rdFr at h
  split at h
  · rename_i n k t s r
    split at h
    · injection h with h1 h2; injection h2 with h2 h3; cases h3
    · rename_i h1
      split at h
      · injection h with h1 h2; injection h2 with h2 h3; cases h3
      · rename_i h2
        split at h
        · rename_i hk
          have hn := hl n (by simp)
          have ht := hl t (by simp)
          injection h with e1 e2
          injection e2 with e2 _
          have hsz : ((strOfNums (r.take n.toNat)).size : Int) = n := by rw [strOfNums_size, List.length_take]; omega
          have hby : bytesL (strOfNums (r.take n.toNat)) = r.take n.toNat := bytesL_strOfNums _ (fun x hx => hl x (by simp only [List.mem_cons]; exact .inr (.inr (.inr (.inr (List.mem_of_mem_take hx))))))
          have hlt : lastI (t == 1) = t := by
            rcases (by omega : t = 0 ∨ t = 1) with rfl | rfl <;> rfl
          subst e1
          refine ⟨hk, ?_, r.drop n.toNat, ?_⟩
          · rw [← e2]; show 4 + n = 4 + ((strOfNums (r.take n.toNat)).size : Int); rw [hsz]
          · show n :: k :: t :: s :: r = ((strOfNums (r.take n.toNat)).size : Int) :: k :: lastI (t == 1) :: s :: (bytesL (strOfNums (r.take n.toNat)) ++ r.drop n.toNat)
            rw [hsz, hlt, hby, List.take_append_drop]
        · injection h with h1 h2; injection h2 with h2 h3; cases h3
  · injection h with h1 h2; injection h2 with h2 h3; cases h3
/-- A frame of which bytes lack lacks bytes. -/
theorem rd_lack {f : Fr} (h : frOk f = true) {k : Nat} (hk : k < (frL f).length) : rdFr ((frL f).take k) = (zFr, 0, 0) := by
  have hb := frOk_bd h
  have hl := lastI_bd f.l
  rw [frL_length] at hk
  rcases (show k = 0 ∨ k = 1 ∨ k = 2 ∨ k = 3 ∨ ∃ j, k = j + 4 ∧ j < f.b.size by
    by_cases h4 : k < 4
    · omega
    · exact .inr (.inr (.inr (.inr ⟨k - 4, by omega, by omega⟩)))) with rfl | rfl | rfl | rfl | ⟨j, rfl, hj⟩
  · rfl
  · rfl
  · rfl
  · rfl
  · show rdFr ((f.b.size : Int) :: f.k :: lastI f.l :: f.s :: (bytesL f.b).take j) = _
    rw [rdFr_four, if_neg (by omega), if_pos (by rw [List.length_take, bytesL_length]; omega)]
/-- Bytes of ok frames: none begins with all bytes of another one. -/
theorem fr_begin {f g : Fr} (hf : frOk f = true) (hg : frOk g = true) {r : List Int} (h : frL g = frL f ++ r) : f = g := by
  have h1 := rd_back hg []
  rw [List.append_nil, h, rd_back hf] at h1
  injection h1
theorem frL_inj {f g : Fr} (hf : frOk f = true) (hg : frOk g = true) (h : frL f = frL g) : f = g := fr_begin hf hg (r := []) (by rw [List.append_nil, h])
theorem frB_inj {f g : Fr} (hf : frOk f = true) (hg : frOk g = true) (h : frB f = frB g) : f = g := frL_inj hf hg (by rw [← bytesL_frB hf, ← bytesL_frB hg, h])
/-- One byte of the head being another one it is not the same frame. -/
theorem rd_bad {b c : List Int} {f : Fr} {u : Int} (hb : ∀ x ∈ b, 0 ≤ x ∧ x ≤ 255) (hc : ∀ x ∈ c, 0 ≤ x ∧ x ≤ 255) (h : rdFr b = (f, u, 1)) {k : Nat} (hk : k < 4) (hne : b[k]? ≠ c[k]?) : ¬ ((rdFr c).2.2 = 1 ∧ (rdFr c).1 = f) := by
  rintro ⟨h1, h2⟩
  obtain ⟨_, _, r, e⟩ := rd_strict hb h
  obtain ⟨⟨g, v, i⟩, hr⟩ : ∃ x, rdFr c = x := ⟨_, rfl⟩
  rw [hr] at h1 h2
  dsimp only at h1 h2
  subst h1
  subst h2
  obtain ⟨_, _, r', e'⟩ := rd_strict hc hr
  apply hne
  rw [e, e', List.getElem?_append_left (by rw [frL_length]; omega), List.getElem?_append_left (by rw [frL_length]; omega)]
/-- Reading, on bytes. -/
theorem frRd_back {f : Fr} (h : frOk f = true) (t : ByteArray) : frRd (frB f ++ t) = (f, 4 + (f.b.size : Int), 1) := by
  unfold frRd; rw [bytesL_append, bytesL_frB h]; exact rd_back h _
theorem frRd_own {f : Fr} (h : frOk f = true) : frRd (frB f) = (f, 4 + (f.b.size : Int), 1) := by
  unfold frRd; rw [bytesL_frB h]; have := rd_back h []; rwa [List.append_nil] at this
theorem frRd_strict {s : ByteArray} {f : Fr} {u : Int} (h : frRd s = (f, u, 1)) : frOk f = true ∧ u = 4 + (f.b.size : Int) ∧ 4 + f.b.size ≤ s.size ∧ frB f = s.extract 0 (4 + f.b.size) := by
  obtain ⟨h1, h2, r, e⟩ := rd_strict (bytesL_bd s) h
  refine ⟨h1, h2, ?_, ?_⟩
  · rw [← bytesL_length s, e, List.length_append, frL_length]; omega
  · rw [extract_take, e, ← frL_length, List.take_left]; rfl
theorem frRd_lack {f : Fr} (h : frOk f = true) {k : Nat} (hk : k < 4 + f.b.size) : frRd ((frB f).extract 0 k) = (zFr, 0, 0) := by
  unfold frRd
  rw [bytesL_extract, bytesL_frB h]
  exact rd_lack h (by rw [frL_length]; exact hk)
theorem frRd_none : frRd ⟨#[]⟩ = (zFr, 0, 0) := rfl
theorem frRd_used (s : ByteArray) : 0 ≤ (frRd s).2.1 ∧ (frRd s).2.1 ≤ 204 ∧ (frRd s).1.b.size ≤ 200 ∧ -1 ≤ (frRd s).2.2 ∧ (frRd s).2.2 ≤ 1 ∧ ((frRd s).2.1 ≤ s.size) := by
  obtain ⟨⟨f, u, i⟩, hr⟩ : ∃ x, frRd s = x := ⟨_, rfl⟩
  by_cases hi : i = 1
  · subst hi
    obtain ⟨h1, h2, h3, _⟩ := frRd_strict hr
    have := frOk_bd h1
    rw [hr]; dsimp only; omega
  · have h : (f, u, i) = (zFr, 0, 0) ∨ (f, u, i) = (zFr, 0, -1) := by
      rw [← hr]
      unfold frRd rdFr
      unfold frRd rdFr at hr
      split at hr
      · split at hr
        · rename_i h0
          rw [if_pos h0]; exact .inr rfl
        · rename_i h0
          rw [if_neg h0]
          split at hr
          · rename_i h1
            rw [if_pos h1]; exact .inl rfl
          · rename_i h1
            rw [if_neg h1]
            split at hr
            · injection hr with _ e2; injection e2 with _ e3; exact absurd e3.symm hi
            · rename_i h2
              rw [if_neg h2]; exact .inr rfl
      · exact .inl rfl
    rcases h with h | h
    · rw [hr, h]; simp [zFr]; decide
    · rw [hr, h]; simp [zFr]; decide
end Go.Proofs.Ytpgcmjbmkjnjnaa
