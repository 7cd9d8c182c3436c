import Derived.Test.YtdnajdobmlgmiaaBB
import Derived.Deep.RegionHeld3
import Derived.Test.YtdnajdobmlgmiaaBC
import Derived.Test.YtdnajdobmlgmiaaBD
import Derived.Test.YtdnajdobmlgmiaaBF
namespace Go.Proofs.Ytdnajdobmlgmiaa
open Go.RowKit
set_option linter.unusedVariables false

theorem numS_size3 (n bits head : Int) : (numS n bits head).size ≤ 3 := by
  unfold numS numL
  rw [strOfNums_size]
  split
  · simp
  · split <;> simp
end Go.Proofs.Ytdnajdobmlgmiaa

namespace Go.Proofs.Ytdnajdobmlgmiaa
open Go.RowKit
set_option linter.unusedVariables false

theorem flP_spec (f : Fd) (L : List Fd) (k : Nat) : (flP f L k = 0 ∧ ∀ j (h : j < L.length), ¬ (L[j].n = f.n ∧ L[j].v = f.v)) ∨ ∃ j, ∃ h : j < L.length, flP f L k = k + j + 1 ∧ (L[j].n = f.n ∧ L[j].v = f.v) ∧ ∀ i (hi : i < j), ¬ (L[i].n = f.n ∧ L[i].v = f.v) := by
  induction L generalizing k with
  | nil => exact .inl ⟨rfl, fun j h => absurd h (by simp)⟩
  | cons x t ih =>
    by_cases hx : x.n = f.n ∧ x.v = f.v
    · exact .inr ⟨0, by simp, by simp [flP, hx], hx, fun i hi => absurd hi (by omega)⟩
    · rcases ih (k + 1) with ⟨h1, h2⟩ | ⟨j, hj, h1, h2, h3⟩
      · refine .inl ⟨by rw [flP, if_neg hx]; exact h1, ?_⟩
        intro j h
        cases j with
        | zero => exact hx
        | succ j => exact h2 j (by simpa using h)
      · refine .inr ⟨j + 1, by simpa using hj, by rw [flP, if_neg hx, h1]; omega, h2, ?_⟩
        intro i hi
        cases i with
        | zero => exact hx
        | succ i => exact h3 i (by omega)
theorem nmP_spec (n : ByteArray) (L : List Fd) (k : Nat) : (nmP n L k = 0 ∧ ∀ j (h : j < L.length), ¬ L[j].n = n) ∨ ∃ j, ∃ h : j < L.length, nmP n L k = k + j + 1 ∧ L[j].n = n ∧ ∀ i (hi : i < j), ¬ L[i].n = n := by
  induction L generalizing k with
  | nil => exact .inl ⟨rfl, fun j h => absurd h (by simp)⟩
  | cons x t ih =>
    by_cases hx : x.n = n
    · exact .inr ⟨0, by simp, by simp [nmP, hx], hx, fun i hi => absurd hi (by omega)⟩
    · rcases ih (k + 1) with ⟨h1, h2⟩ | ⟨j, hj, h1, h2, h3⟩
      · refine .inl ⟨by rw [nmP, if_neg hx]; exact h1, ?_⟩
        intro j h
        cases j with
        | zero => exact hx
        | succ j => exact h2 j (by simpa using h)
      · refine .inr ⟨j + 1, by simpa using hj, by rw [nmP, if_neg hx, h1]; omega, h2, ?_⟩
        intro i hi
        cases i with
        | zero => exact hx
        | succ i => exact h3 i (by omega)
/-- What is found, place by place. -/
theorem find_spec (fs : List Fd) (f : Fd) (p : Nat) (b : Bool) (L : List Fd) (hL : fixedL ++ fs = L) (h : findV fs f = (p, b)) :
    (∀ i (hi : i < L.length), L[i].n = f.n → p ≠ 0 ∧ (b = false → p ≤ i + 1) ∧ (L[i].v = f.v → b = true ∧ p ≤ i + 1)) ∧
    (p = 0 → b = false) ∧ (p ≠ 0 → ∃ h : p - 1 < L.length, L[p - 1].n = f.n ∧ (b = true → L[p - 1].v = f.v)) := by
  unfold findV at h
  rw [hL] at h
  rcases flP_spec f L 0 with ⟨h1, h2⟩ | ⟨j, hj, h1, h2, h3⟩
  · rw [if_pos h1] at h
    injection h with hp hb
    subst hp hb
    rcases nmP_spec f.n L 0 with ⟨g1, g2⟩ | ⟨q, hq, g1, g2, g3⟩
    · refine ⟨fun i hi e => absurd e (g2 i hi), fun _ => rfl, fun e => absurd g1 e⟩
    · refine ⟨fun i hi e => ⟨by omega, fun _ => ?_, fun ev => absurd ⟨e, ev⟩ (h2 i hi)⟩, fun _ => rfl, fun _ => ⟨by omega, ?_⟩⟩
      · by_cases hlt : i < q
        · exact absurd e (g3 i hlt)
        · omega
      · have e1 : nmP f.n L 0 - 1 = q := by omega
        simp only [e1]
        exact ⟨g2, fun e => by cases e⟩
  · rw [if_neg (by omega)] at h
    injection h with hp hb
    subst hp hb
    refine ⟨fun i hi e => ⟨by omega, (fun e => by cases e), fun ev => ⟨rfl, ?_⟩⟩, fun e => by omega, fun _ => ⟨by omega, ?_⟩⟩
    · by_cases hlt : i < j
      · exact absurd ⟨e, ev⟩ (h3 i hlt)
      · omega
    · have e1 : flP f L 0 - 1 = j := by omega
      simp only [e1]
      exact ⟨h2.1, fun _ => h2.2⟩

/-- The words of a field in bytes: a place, or 0 and a name; and the value. -/
structure Wd where
  p : Int
  n : List Int
  v : List Int
/-- A form: 0 found, 1 added, 2 never. -/
structure Fm where
  k : Nat
  w : Wd
/-- The words at the beginning of bytes, and how many bytes they have. -/
def litL (P : Int) (b : List Int) : Option (Wd × Nat) :=
  if (rd P b).2.2 = false then none
  else if (rd P b).1 = 0 then
    (rdWL (b.drop (rd P b).2.1.toNat)).bind fun x => if x.1 = [] then none else (rdWL (b.drop ((rd P b).2.1 + x.2).toNat)).map fun y => (⟨0, x.1, y.1⟩, ((rd P b).2.1 + x.2 + y.2).toNat)
  else (rdWL (b.drop (rd P b).2.1.toNat)).map fun y => (⟨(rd P b).1, [], y.1⟩, ((rd P b).2.1 + y.2).toNat)
/-- The form at the beginning of bytes. -/
def formL (b : List Int) : Option (Fm × Nat) :=
  if 128 ≤ b.headD 0 then (if (rd 128 b).2.2 then some (⟨0, ⟨(rd 128 b).1, [], []⟩⟩, (rd 128 b).2.1.toNat) else none)
  else if 64 ≤ b.headD 0 then (litL 64 b).map fun x => (⟨1, x.1⟩, x.2)
  else if 16 ≤ b.headD 0 ∧ b.headD 0 ≤ 31 then (litL 16 b).map fun x => (⟨2, x.1⟩, x.2)
  else none
/-- The name that words have, by a table. -/
def nameOf (fs : List Fd) (w : Wd) : Option ByteArray := if w.p = 0 then some (strOfNums w.n) else if (atV fs w.p).2 then some (atV fs w.p).1.n else none
/-- The fields of the table behind a form, and the field that it is. -/
def stepL (fs : List Fd) (max : Int) (m : Fm) : Option (List Fd × Fd) :=
  if m.k = 0 then (if (atV fs m.w.p).2 then some (fs, (atV fs m.w.p).1) else none)
  else if m.k = 1 then (nameOf fs m.w).map fun n => (fitL max (⟨n, strOfNums m.w.v, false⟩ :: fs), ⟨n, strOfNums m.w.v, false⟩)
  else (nameOf fs m.w).map fun n => (fs, ⟨n, strOfNums m.w.v, true⟩)
/-- At most so many fields out of all of the bytes, and the fields of the table behind. -/
def rdH : Nat → List Fd → Int → List Int → Option (List Fd × List Fd)
  | 0, fs, _, b => if b = [] then some (fs, []) else none
  | r + 1, fs, max, b => if b = [] then some (fs, []) else (formL b).bind fun x => (stepL fs max x.1).bind fun y => (rdH r y.1 max (b.drop x.2)).map fun z => (z.1, y.2 :: z.2)
/-- What HeadRead answers; what HeadWrite does. -/
def hRd (fs : List Fd) (max : Int) (s : ByteArray) : (List Fd × Int) × List Fd × Bool :=
  if tOk fs max && decide (s.size ≤ 250) then (match rdH 6 fs max (bytesL s) with | some x => ((x.1, max), x.2, true) | none => (([], 0), [], false)) else (([], 0), [], false)
def hWr (fs : List Fd) (max : Int) (h : List Fd) : (List Fd × Int) × ByteArray :=
  if tOk fs max && hOk h then (((wrH fs max h).1, max), (wrH fs max h).2) else (([], 0), ⟨#[]⟩)

def byteL (b : List Int) : Prop := ∀ x ∈ b, 0 ≤ x ∧ x ≤ 255
theorem byteL_drop {b : List Int} (h : byteL b) (k : Nat) : byteL (b.drop k) := fun x hx => h x (List.mem_of_mem_drop hx)
/-- What is behind a number does not matter. -/
theorem rd_more {P : Int} {b : List Int} {p u : Int} (hb : byteL b) (hP : 8 ≤ P) (hP2 : P ≤ 128) (h : rd P b = (p, u, true)) : 0 ≤ p ∧ p ≤ 9999 ∧ 1 ≤ u ∧ u ≤ b.length ∧ ∀ t, rd P (b ++ t) = (p, u, true) := by
  match b, hb, h with
  | [], _, h => simp [rd] at h
  | [a], hb, h =>
    have ha := hb a (by simp)
    have hm := Int.emod_nonneg a (show P ≠ 0 by omega)
    rw [rd1] at h
    by_cases h1 : a % P < P - 1
    · rw [if_pos h1] at h
      injection h with e1 e2; injection e2 with e2 e3; subst e1 e2
      exact ⟨hm, by omega, by omega, by simp, fun t => rd_first P a t h1⟩
    · rw [if_neg h1] at h; simp at h
  | [a, c], hb, h =>
    have ha := hb a (by simp)
    have hc := hb c (by simp)
    have hm := Int.emod_nonneg a (show P ≠ 0 by omega)
    rw [rd2] at h
    by_cases h1 : a % P < P - 1
    · rw [if_pos h1] at h
      injection h with e1 e2; injection e2 with e2 e3; subst e1 e2
      exact ⟨hm, by omega, by omega, by simp, fun t => rd_first P a _ h1⟩
    · rw [if_neg h1] at h
      by_cases h2 : c < 128
      · rw [if_pos h2] at h
        injection h with e1 e2; injection e2 with e2 e3; subst e1 e2
        exact ⟨by omega, by omega, by omega, by simp, fun t => rd_second P a c _ h1 h2⟩
      · rw [if_neg h2] at h; simp at h
  | a :: c :: d :: t, hb, h =>
    have ha := hb a (by simp)
    have hc := hb c (by simp)
    have hd := hb d (by simp)
    have hm := Int.emod_nonneg a (show P ≠ 0 by omega)
    rw [rd3] at h
    by_cases h1 : a % P < P - 1
    · rw [if_pos h1] at h
      injection h with e1 e2; injection e2 with e2 e3; subst e1 e2
      exact ⟨hm, by omega, by omega, by rw [List.length_cons]; omega, fun t => rd_first P a _ h1⟩
    · rw [if_neg h1] at h
      by_cases h2 : c < 128
      · rw [if_pos h2] at h
        injection h with e1 e2; injection e2 with e2 e3; subst e1 e2
        exact ⟨by omega, by omega, by omega, by rw [List.length_cons, List.length_cons]; omega, fun t => rd_second P a c _ h1 h2⟩
      · rw [if_neg h2] at h
        by_cases h3 : 128 ≤ d ∨ d = 0 ∨ 9999 < P - 1 + (c - 128) + 128 * d
        · rw [if_pos h3] at h; simp at h
        · rw [if_neg h3] at h
          injection h with e1 e2; injection e2 with e2 e3; subst e1 e2
          refine ⟨by omega, by omega, by omega, by rw [List.length_cons, List.length_cons, List.length_cons]; omega, fun t => ?_⟩
          exact rd_third P a c d _ h1 h2 (by omega) (by omega) (by omega)
theorem rdWL_more {b l : List Int} {u : Int} (hb : byteL b) (h : rdWL b = some (l, u)) : allS l ∧ l.length ≤ 16 ∧ 1 ≤ u ∧ u ≤ b.length ∧ ∀ t, rdWL (b ++ t) = some (l, u) := by
  obtain ⟨h1, h2, h3, h4, _⟩ := rdWL_strict hb h
  refine ⟨h1, h2, h3, h4, fun t' => ?_⟩
  match b, hb, h with
  | [], _, h => simp [rdWL] at h
  | a :: t, hb, h =>
    have ha := hb a (by simp)
    rw [rdWL_cons] at h
    rw [List.cons_append, rdWL_cons]
    by_cases h16 : 16 < a % 128
    · rw [if_pos h16] at h; simp at h
    · rw [if_neg h16] at h ⊢
      by_cases ht : (t.length : Int) < a % 128
      · rw [if_pos ht] at h; simp at h
      · rw [if_neg ht] at h
        rw [if_neg (by rw [List.length_append]; omega), List.take_append_of_le_length (by omega)]
        exact h
theorem drop_app {b t : List Int} {k : Nat} (h : k ≤ b.length) : (b ++ t).drop k = b.drop k ++ t := List.drop_append_of_le_length h
theorem litL_more {P : Int} {b : List Int} {x : Wd} {u : Nat} (hb : byteL b) (hP : 8 ≤ P) (hP2 : P ≤ 128) (h : litL P b = some (x, u)) :
    0 ≤ x.p ∧ x.p ≤ 9999 ∧ (x.p = 0 → allS x.n ∧ x.n.length ≤ 16 ∧ x.n ≠ []) ∧ (x.p ≠ 0 → x.n = []) ∧ allS x.v ∧ x.v.length ≤ 16 ∧ 1 ≤ u ∧ u ≤ b.length ∧ ∀ t, litL P (b ++ t) = some (x, u) := by
  obtain ⟨⟨p, k, ok⟩, hr⟩ : ∃ r, rd P b = r := ⟨_, rfl⟩
  unfold litL at h
  rw [hr] at h
  simp only at h
  cases ok with
  | false => simp at h
  | true =>
    obtain ⟨p0, p1, k0, k1, hk⟩ := rd_more hb hP hP2 hr
    have e0 : ∀ t, (b ++ t).drop k.toNat = b.drop k.toNat ++ t := fun t => drop_app (by omega)
    simp only [Bool.true_eq_false, if_false] at h
    by_cases hp : p = 0
    · rw [if_pos hp] at h
      match h1 : rdWL (b.drop k.toNat) with
      | none => rw [h1] at h; simp at h
      | some (n, m) =>
        rw [h1, Option.bind_some] at h
        simp only at h
        obtain ⟨n1, n2, n3, n4, n5⟩ := rdWL_more (byteL_drop hb _) h1
        rw [List.length_drop] at n4
        by_cases hn : n = []
        · rw [if_pos hn] at h; simp at h
        · rw [if_neg hn] at h
          match h2 : rdWL (b.drop (k + m).toNat) with
          | none => rw [h2] at h; simp at h
          | some (v, q) =>
            rw [h2, Option.map_some] at h
            obtain ⟨v1, v2, v3, v4, v5⟩ := rdWL_more (byteL_drop hb _) h2
            rw [List.length_drop] at v4
            injection h with h
            injection h with hx hu
            subst hx hu
            refine ⟨by simp, by simp, fun _ => ⟨n1, n2, hn⟩, fun e => absurd rfl e, v1, v2, by omega, by omega, fun t => ?_⟩
            unfold litL
            rw [hk t]
            simp only [Bool.true_eq_false, if_false]
            rw [if_pos hp, e0 t, n5 t, Option.bind_some]
            simp only
            rw [if_neg hn, drop_app (by omega), v5 t, Option.map_some]
    · rw [if_neg hp] at h
      match h2 : rdWL (b.drop k.toNat) with
      | none => rw [h2] at h; simp at h
      | some (v, q) =>
        rw [h2, Option.map_some] at h
        obtain ⟨v1, v2, v3, v4, v5⟩ := rdWL_more (byteL_drop hb _) h2
        rw [List.length_drop] at v4
        injection h with h
        injection h with hx hu
        subst hx hu
        refine ⟨p0, p1, fun e => absurd e hp, fun _ => rfl, v1, v2, by omega, by omega, fun t => ?_⟩
        unfold litL
        rw [hk t]
        simp only [Bool.true_eq_false, if_false]
        rw [if_neg hp, e0 t, v5 t, Option.map_some]
theorem headD_app {b t : List Int} (h : b ≠ []) : (b ++ t).headD 0 = b.headD 0 := by cases b with | nil => exact absurd rfl h | cons a s => rfl
/-- What a form in bytes is. -/
structure FmOk (m : Fm) : Prop where
  k : m.k ≤ 2
  p0 : 0 ≤ m.w.p
  p1 : m.w.p ≤ 9999
  n : m.k ≠ 0 → m.w.p = 0 → allS m.w.n ∧ m.w.n.length ≤ 16 ∧ m.w.n ≠ []
  no : m.w.p ≠ 0 → m.w.n = []
  v : allS m.w.v ∧ m.w.v.length ≤ 16
theorem formL_more {b : List Int} {m : Fm} {u : Nat} (hb : byteL b) (h : formL b = some (m, u)) : FmOk m ∧ 1 ≤ u ∧ u ≤ b.length ∧ ∀ t, formL (b ++ t) = some (m, u) := by
  have hne : b ≠ [] := by
    rintro rfl
    simp [formL] at h
  unfold formL at h
  by_cases h1 : 128 ≤ b.headD 0
  · rw [if_pos h1] at h
    obtain ⟨⟨p, k, ok⟩, hr⟩ : ∃ r, rd 128 b = r := ⟨_, rfl⟩
    rw [hr] at h
    simp only at h
    cases ok with
    | false => simp at h
    | true =>
      obtain ⟨p0, p1, k0, k1, hk⟩ := rd_more hb (by decide) (by decide) hr
      rw [if_pos rfl] at h
      injection h with h
      injection h with hx hu
      subst hx hu
      refine ⟨⟨by simp, p0, p1, fun e => absurd rfl e, fun _ => rfl, (by intro c hc; simp at hc), by simp⟩, by omega, by omega, fun t => ?_⟩
      unfold formL
      rw [headD_app hne, if_pos h1, hk t]
      rfl
  · rw [if_neg h1] at h
    by_cases h2 : 64 ≤ b.headD 0
    · rw [if_pos h2] at h
      match hl : litL 64 b with
      | none => rw [hl] at h; simp at h
      | some (x, q) =>
        rw [hl, Option.map_some] at h
        injection h with h
        injection h with hx hu
        subst hx hu
        obtain ⟨a1, a2, a3, a4, a5, a6, a7, a8, a9⟩ := litL_more hb (by decide) (by decide) hl
        refine ⟨⟨by simp, a1, a2, fun _ => a3, a4, a5, a6⟩, a7, a8, fun t => ?_⟩
        unfold formL
        rw [headD_app hne, if_neg h1, if_pos h2, a9 t, Option.map_some]
    · rw [if_neg h2] at h
      by_cases h3 : 16 ≤ b.headD 0 ∧ b.headD 0 ≤ 31
      · rw [if_pos h3] at h
        match hl : litL 16 b with
        | none => rw [hl] at h; simp at h
        | some (x, q) =>
          rw [hl, Option.map_some] at h
          injection h with h
          injection h with hx hu
          subst hx hu
          obtain ⟨a1, a2, a3, a4, a5, a6, a7, a8, a9⟩ := litL_more hb (by decide) (by decide) hl
          refine ⟨⟨by simp, a1, a2, fun _ => a3, a4, a5, a6⟩, a7, a8, fun t => ?_⟩
          unfold formL
          rw [headD_app hne, if_neg h1, if_neg h2, if_pos h3, a9 t, Option.map_some]
      · rw [if_neg h3] at h; simp at h
end Go.Proofs.Ytdnajdobmlgmiaa

namespace Go.Proofs.Ytdnajdobmlgmiaa
open Go.RowKit
set_option linter.unusedVariables false

theorem fixed_ok (k : Nat) (h : k < 6) : fOk (fixedL[k]'h) = true := by
  have key : ∀ k : Fin 6, fOk (fixedL[k.1]'k.2) = true := by decide +kernel
  exact key ⟨k, h⟩
theorem fixed_fl (fs : List Fd) (k : Nat) (h : k < 6) : flP (fixedL[k]'h) (fixedL ++ fs) 0 = k + 1 := by
  have key : ∀ k : Fin 6, flP (fixedL[k.1]'k.2) (fixedL ++ fs) 0 = k.1 + 1 := by
    intro k
    rcases k with ⟨k, hk⟩
    rcases (by omega : k = 0 ∨ k = 1 ∨ k = 2 ∨ k = 3 ∨ k = 4 ∨ k = 5) with rfl | rfl | rfl | rfl | rfl | rfl
    · exact rfl
    · exact rfl
    · exact rfl
    · exact rfl
    · exact rfl
    · exact rfl
  exact key ⟨k, h⟩
theorem fixed_q (k : Nat) (h : k < 6) : (fixedL[k]'h).q = false := by
  have key : ∀ k : Fin 6, (fixedL[k.1]'k.2).q = false := by decide
  exact key ⟨k, h⟩
theorem all_ok {fs : List Fd} {max : Int} (ht : tOk fs max = true) : ∀ f ∈ fixedL ++ fs, fOk f = true ∧ f.q = false := by
  intro f hf
  rcases List.mem_append.1 hf with h | h
  · obtain ⟨k, hk, rfl⟩ := List.getElem_of_mem h
    exact ⟨fixed_ok k hk, fixed_q k hk⟩
  · exact (tOk_parts ht).1 f h
theorem six_len (fs : List Fd) : (fixedL ++ fs).length = 6 + fs.length := by rw [List.length_append]; rfl
theorem atV_at {fs : List Fd} {p : Nat} (h : p ≠ 0) (hl : p - 1 < (fixedL ++ fs).length) : atV fs (p : Int) = ((fixedL ++ fs)[p - 1], true) := by
  have h6 := six_len fs
  unfold atV
  rw [if_pos (by omega), show ((p : Int) - 1).toNat = p - 1 by omega, List.getD_eq_getElem?_getD, List.getElem?_eq_getElem hl, Option.getD_some]
theorem atV_some {fs : List Fd} {p : Int} (h : (atV fs p).2 = true) : (atV fs p).1 ∈ fixedL ++ fs := by
  have h6 := six_len fs
  unfold atV at h ⊢
  by_cases hp : 1 ≤ p ∧ p ≤ 6 + fs.length
  · rw [if_pos hp]
    have hl : (p - 1).toNat < (fixedL ++ fs).length := by omega
    simp only
    rw [List.getD_eq_getElem?_getD, List.getElem?_eq_getElem hl, Option.getD_some]
    exact List.getElem_mem hl
  · rw [if_neg hp] at h; simp at h
theorem fOk_parts {f : Fd} (h : fOk f = true) : wOk (bytesL f.n) = true ∧ bytesL f.n ≠ [] ∧ wOk (bytesL f.v) = true := by
  unfold fOk at h
  rw [Bool.and_eq_true, Bool.and_eq_true] at h
  refine ⟨h.1.1, ?_, h.2⟩
  intro e
  have h0 : f.n.size = 0 := by rw [← bytesL_length, e]; rfl
  rw [size_zero h0] at h
  exact absurd h.1.2 (by decide +kernel)
theorem fOk_mk {n v : ByteArray} (q : Bool) (hn : wOk (bytesL n) = true) (h0 : bytesL n ≠ []) (hv : wOk (bytesL v) = true) : fOk ⟨n, v, q⟩ = true := by
  unfold fOk
  have : n.toList.isEmpty = false := isEmpty_false (by
    have := bytesL_length n
    have : (bytesL n).length ≠ 0 := fun e => h0 (List.eq_nil_of_length_eq_zero e)
    omega)
  simp only
  rw [hn, hv, this]
  rfl
theorem wOk_nums {l : List Int} (h : allS l) (hl : l.length ≤ 16) : wOk (bytesL (strOfNums l)) = true := by
  rw [bytesL_strOfNums _ (allS_bd h)]
  exact wOk_mk h hl
theorem tOk_nil {fs : List Fd} {max : Int} (h : tOk fs max = true) : tOk [] max = true := tOk_sub h (by simp) (by have := fSum_nonneg fs; simpa [fSum] using this)
theorem fit_ok {fs : List Fd} {max : Int} {f : Fd} (h : tOk fs max = true) (hf : fOk f = true) : tOk (fitL max (⟨f.n, f.v, false⟩ :: fs)) max = true := by
  by_cases hl : fLen f ≤ max
  · obtain ⟨R, e, _, _, h4, _⟩ := add_fits h hf hl
    rw [e]; exact h4
  · rw [add_none (by omega)]; exact tOk_nil h
/-- Where a field is found. -/
theorem find_at {fs : List Fd} {f : Fd} {p : Nat} {b : Bool} (h : findV fs f = (p, b)) : (p = 0 → b = false) ∧ (p ≠ 0 → p ≤ 6 + fs.length ∧ ∃ x, atV fs (p : Int) = (x, true) ∧ x ∈ fixedL ++ fs ∧ x.n = f.n ∧ (b = true → x.v = f.v)) := by
  obtain ⟨h1, h2, h3⟩ := find_spec fs f p b _ rfl h
  refine ⟨h2, fun hp => ?_⟩
  obtain ⟨hl, e1, e2⟩ := h3 hp
  have h6 := six_len fs
  exact ⟨by omega, _, atV_at hp hl, List.getElem_mem hl, e1, e2⟩
theorem pl_le {fs : List Fd} {f : Fd} {p : Nat} {b : Bool} (h : findV fs f = (p, b)) : p ≤ 6 + fs.length := by
  by_cases hp : p = 0
  · omega
  · exact ((find_at h).2 hp).1
theorem numL_head (n : Nat) (P : Int) (t : List Int) (hP : 1 ≤ P) : P ≤ (numL n P 1 ++ t).headD 0 ∧ (numL n P 1 ++ t).headD 0 ≤ 2 * P - 1 := by
  unfold numL
  split
  · simp; omega
  · split <;> (simp; omega)
theorem bytesL_nameB (p : Nat) (bits : Int) (f : Fd) (hn : nOk p bits 1) (hw : wOk (bytesL f.n) = true) : bytesL (nameB p bits f) = numL p (pw bits) 1 ++ (if p = 0 then wrL (bytesL f.n) else []) := by
  unfold nameB
  by_cases hp : p = 0
  · subst hp
    rw [if_neg (by omega), if_pos rfl, bytesL_append, bytesL_wrV hw]
    congr 1
    exact bytesL_numS 0 bits 1 hn
  · rw [if_pos (by omega), if_neg hp, List.append_nil]
    exact bytesL_numS p bits 1 hn
/-- The words of a field that was written. -/
theorem lit_write (bits : Int) (p : Nat) (f : Fd) (t : List Int) (hn : nOk p bits 1) (hf : fOk f = true) :
    litL (pw bits) (bytesL (nameB p bits f ++ wrV f.v) ++ t) = some (⟨p, if p = 0 then bytesL f.n else [], bytesL f.v⟩, (nameB p bits f ++ wrV f.v).size) := by
  obtain ⟨wn, ne, wv⟩ := fOk_parts hf
  have an := wOk_allS wn
  have av := wOk_allS wv
  have hs : (nameB p bits f ++ wrV f.v).size = (bytesL (nameB p bits f ++ wrV f.v)).length := (bytesL_length _).symm
  have e : bytesL (nameB p bits f ++ wrV f.v) = numL p (pw bits) 1 ++ ((if p = 0 then wrL (bytesL f.n) else []) ++ wrL (bytesL f.v)) := by
    rw [bytesL_append, bytesL_nameB p bits f hn wn, bytesL_wrV wv, List.append_assoc]
  rw [hs, e]
  clear hs e
  have hr := fun t => rd_numL p bits 1 hn t
  generalize numL p (pw bits) 1 = A at hr
  by_cases hp : p = 0
  · subst hp
    rw [if_pos rfl, if_pos rfl]
    have e2 : A ++ (wrL (bytesL f.n) ++ wrL (bytesL f.v)) ++ t = A ++ (wrL (bytesL f.n) ++ (wrL (bytesL f.v) ++ t)) := by simp [List.append_assoc]
    rw [e2]
    unfold litL
    rw [hr]
    simp only [Bool.true_eq_false, if_false]
    rw [if_pos (by rfl), show ((A.length : Int)).toNat = A.length by omega, List.drop_left, rdWL_write _ _ an.1 an.2, Option.bind_some]
    simp only
    rw [if_neg ne, show ((A.length : Int) + ((wrL (bytesL f.n)).length : Int)).toNat = (A ++ wrL (bytesL f.n)).length by rw [List.length_append]; omega, ← List.append_assoc, List.drop_left, rdWL_write _ _ av.1 av.2, Option.map_some]
    congr 2
    simp only [List.length_append]
    omega
  · rw [if_neg hp, if_neg hp, List.nil_append, List.append_assoc]
    unfold litL
    rw [hr]
    simp only [Bool.true_eq_false, if_false]
    rw [if_neg (by simp only [Int.natCast_eq_zero]; exact hp), show ((A.length : Int)).toNat = A.length by omega, List.drop_left, rdWL_write _ _ av.1 av.2, Option.map_some]
    congr 2
    simp only [List.length_append]
    omega
theorem name_found {fs : List Fd} {f : Fd} {p : Nat} {b : Bool} (h : findV fs f = (p, b)) (v : List Int) : nameOf fs ⟨p, if p = 0 then bytesL f.n else [], v⟩ = some f.n := by
  unfold nameOf
  dsimp only
  by_cases hp : p = 0
  · subst hp
    rw [if_pos (by rfl), if_pos rfl, strOfNums_bytesL]
  · obtain ⟨_, x, e1, _, e2, _⟩ := (find_at h).2 hp
    rw [if_neg (by simp only [Int.natCast_eq_zero]; exact hp), e1, if_pos rfl, e2]
theorem bytesL_numApp (p : Nat) (bits : Int) (f : Fd) (t : List Int) (hn : nOk p bits 1) (hw : wOk (bytesL f.n) = true) : ∃ r, bytesL (nameB p bits f ++ wrV f.v) ++ t = numL p (pw bits) 1 ++ r := by
  rw [bytesL_append, bytesL_nameB p bits f hn hw, List.append_assoc, List.append_assoc]
  exact ⟨_, rfl⟩
/-- A field that was written is read, by the same table. -/
theorem form_write {fs : List Fd} {max : Int} {f : Fd} (ht : tOk fs max = true) (hf : fOk f = true) (t : List Int) :
    ∃ m, formL (bytesL (wrF fs max f).2 ++ t) = some (m, (wrF fs max f).2.size) ∧ stepL fs max m = some ((wrF fs max f).1, f) := by
  obtain ⟨⟨p, b⟩, hfd⟩ : ∃ r, findV fs f = r := ⟨_, rfl⟩
  have hlen := tOk_len ht
  have hpl := pl_le hfd
  have wn := (fOk_parts hf).1
  have hv : f = ⟨f.n, f.v, f.q⟩ := rfl
  unfold wrF
  rw [hfd]
  dsimp only
  cases hq : f.q with
  | true =>
    rw [if_pos rfl]
    dsimp only
    have hn : nOk p 4 1 := ⟨by decide, by decide, by omega, by omega, by decide, by decide⟩
    refine ⟨⟨2, ⟨p, if p = 0 then bytesL f.n else [], bytesL f.v⟩⟩, ?_, ?_⟩
    · have hl := lit_write 4 p f t hn hf
      obtain ⟨r, hr⟩ := bytesL_numApp p 4 f t hn wn
      have hh := numL_head p (pw 4) r (by decide)
      rw [← hr] at hh
      rw [pw4] at hl hh
      unfold formL
      rw [if_neg (by omega), if_neg (by omega), if_pos ⟨by omega, by omega⟩, hl, Option.map_some]
    · unfold stepL
      dsimp only
      rw [if_neg (by decide), if_neg (by decide), name_found hfd, Option.map_some, strOfNums_bytesL, ← hq]
  | false =>
    rw [if_neg (by decide)]
    cases b with
    | true =>
      rw [if_pos rfl]
      dsimp only
      have hp : p ≠ 0 := fun e => by have := (find_at hfd).1 e; cases this
      obtain ⟨_, x, e1, e2, e3, e4⟩ := (find_at hfd).2 hp
      have hn : nOk p 7 1 := ⟨by decide, by decide, by omega, by omega, by decide, by decide⟩
      refine ⟨⟨0, ⟨p, [], []⟩⟩, ?_, ?_⟩
      · have hr := rd_numL p 7 1 hn t
        have hh := numL_head p (pw 7) t (by decide)
        rw [pw7] at hr hh
        rw [bytesL_numS p 7 1 hn, ← bytesL_length, bytesL_numS p 7 1 hn, pw7]
        unfold formL
        rw [if_pos (by omega), hr]
        dsimp only
        rw [if_pos rfl, Int.toNat_natCast]
      · unfold stepL
        dsimp only
        rw [if_pos rfl, e1, if_pos rfl]
        congr 2
        have hxq := (all_ok ht x e2).2
        have e4 := e4 rfl
        rw [hv, hq, ← e3, ← e4, ← hxq]
    | false =>
      rw [if_neg (by decide)]
      dsimp only
      have hn : nOk p 6 1 := ⟨by decide, by decide, by omega, by omega, by decide, by decide⟩
      refine ⟨⟨1, ⟨p, if p = 0 then bytesL f.n else [], bytesL f.v⟩⟩, ?_, ?_⟩
      · have hl := lit_write 6 p f t hn hf
        obtain ⟨r, hr⟩ := bytesL_numApp p 6 f t hn wn
        have hh := numL_head p (pw 6) r (by decide)
        rw [← hr] at hh
        rw [pw6] at hl hh
        unfold formL
        rw [if_neg (by omega), if_pos (by omega), hl, Option.map_some]
      · unfold stepL
        dsimp only
        rw [if_neg (by decide), if_pos rfl, name_found hfd, Option.map_some, strOfNums_bytesL, ← hq]
theorem wrF_ok {fs : List Fd} {max : Int} {f : Fd} (ht : tOk fs max = true) (hf : fOk f = true) : tOk (wrF fs max f).1 max = true := by
  unfold wrF
  split
  · exact ht
  · split
    · exact ht
    · exact fit_ok ht hf
theorem wrF_pos {fs : List Fd} {max : Int} {f : Fd} (ht : tOk fs max = true) (hf : fOk f = true) : 1 ≤ (wrF fs max f).2.size := by
  obtain ⟨m, h1, _⟩ := form_write ht hf []
  rw [List.append_nil] at h1
  exact (formL_more (bytesL_bd _) h1).2.1
theorem bytesL_empty : bytesL ⟨#[]⟩ = [] := rfl
theorem rdH_nil (r : Nat) (fs : List Fd) (max : Int) : rdH r fs max [] = some (fs, []) := by cases r <;> rfl
/-- A head that was written is read, by the same table, whatever follows. -/
theorem rdH_write {max : Int} (h : List Fd) : ∀ (fs : List Fd) (r : Nat), tOk fs max = true → (∀ f ∈ h, fOk f = true) → h.length ≤ r → rdH r fs max (bytesL (wrH fs max h).2) = some ((wrH fs max h).1, h) := by
  induction h with
  | nil => intro fs r _ _ _; exact rdH_nil r fs max
  | cons f t ih =>
    intro fs r ht hf hr
    obtain ⟨r, rfl⟩ : ∃ q, r = q + 1 := ⟨r - 1, by rw [List.length_cons] at hr; omega⟩
    have hff := hf f (by simp)
    obtain ⟨m, h1, h2⟩ := form_write ht hff (bytesL (wrH (wrF fs max f).1 max t).2)
    have hp := wrF_pos ht hff
    have e : bytesL (wrH fs max (f :: t)).2 = bytesL (wrF fs max f).2 ++ bytesL (wrH (wrF fs max f).1 max t).2 := bytesL_append _ _
    have hne : bytesL (wrF fs max f).2 ++ bytesL (wrH (wrF fs max f).1 max t).2 ≠ [] := by
      intro c
      have := congrArg List.length c
      rw [List.length_append, bytesL_length, List.length_nil] at this
      omega
    rw [e]
    unfold rdH
    rw [if_neg hne, h1, Option.bind_some]
    simp only
    rw [h2, Option.bind_some]
    simp only
    rw [← bytesL_length, List.drop_left, ih (wrF fs max f).1 r (wrF_ok ht hff) (fun x hx => hf x (by simp [hx])) (by rw [List.length_cons] at hr; omega), Option.map_some]
    rfl
theorem wrH_ok {max : Int} (h : List Fd) : ∀ (fs : List Fd), tOk fs max = true → (∀ f ∈ h, fOk f = true) → tOk (wrH fs max h).1 max = true := by
  induction h with
  | nil => intro fs ht _; exact ht
  | cons f t ih => intro fs ht hf; exact ih _ (wrF_ok ht (hf f (by simp))) (fun x hx => hf x (by simp [hx]))
theorem empty_app (s : ByteArray) : (⟨#[]⟩ : ByteArray) ++ s = s := by apply ByteArray.ext; simp
theorem wrH_append (a : List Fd) : ∀ (fs : List Fd) (max : Int) (b : List Fd), wrH fs max (a ++ b) = ((wrH (wrH fs max a).1 max b).1, (wrH fs max a).2 ++ (wrH (wrH fs max a).1 max b).2) := by
  induction a with
  | nil => intro fs max b; show wrH fs max b = (_, (⟨#[]⟩ : ByteArray) ++ _); rw [empty_app]; rfl
  | cons f t ih =>
    intro fs max b
    show ((wrH (wrF fs max f).1 max (t ++ b)).1, (wrF fs max f).2 ++ (wrH (wrF fs max f).1 max (t ++ b)).2) = _
    rw [ih]
    simp only [wrH, ByteArray.append_assoc]
theorem nameB_size (p : Nat) (bits : Int) (f : Fd) : (nameB p bits f).size ≤ 20 := by
  have h1 := numS_le p bits 1
  have h2 := numS_le 0 bits 1
  have h3 := wrV_size f.n
  unfold nameB
  split
  · omega
  · rw [ByteArray.size_append]; omega
theorem wrF_size (fs : List Fd) (max : Int) (f : Fd) : (wrF fs max f).2.size ≤ 37 := by
  have h1 := fun p bits => nameB_size p bits f
  have h2 := wrV_size f.v
  unfold wrF
  split
  · rw [ByteArray.size_append]; have := h1 (findV fs f).1 4; omega
  · split
    · have := numS_le (findV fs f).1 7 1; dsimp only; omega
    · rw [ByteArray.size_append]; have := h1 (findV fs f).1 6; omega
theorem wrH_size (h : List Fd) : ∀ (fs : List Fd) (max : Int), (wrH fs max h).2.size ≤ 37 * h.length := by
  induction h with
  | nil => intro fs max; exact Nat.le_refl 0
  | cons f t ih =>
    intro fs max
    have h1 := wrF_size fs max f
    have h2 := ih (wrF fs max f).1 max
    show ((wrF fs max f).2 ++ (wrH (wrF fs max f).1 max t).2).size ≤ _
    rw [ByteArray.size_append, List.length_cons]
    omega
theorem hOk_parts {h : List Fd} (e : hOk h = true) : (∀ f ∈ h, fOk f = true) ∧ h.length ≤ 6 := by
  unfold hOk at e
  rw [Bool.and_eq_true, List.all_eq_true, decide_eq_true_eq] at e
  exact e
theorem hOk_mk {h : List Fd} (h1 : ∀ f ∈ h, fOk f = true) (h2 : h.length ≤ 6) : hOk h = true := by
  unfold hOk
  rw [Bool.and_eq_true, List.all_eq_true, decide_eq_true_eq]
  exact ⟨h1, h2⟩
theorem hWr_ok {fs : List Fd} {max : Int} {h : List Fd} (ht : tOk fs max = true) (hh : hOk h = true) : hWr fs max h = (((wrH fs max h).1, max), (wrH fs max h).2) := by
  unfold hWr; rw [ht, hh]; rfl
theorem hWr_bad {fs : List Fd} {max : Int} {h : List Fd} (hb : (tOk fs max && hOk h) = false) : hWr fs max h = (([], 0), ⟨#[]⟩) := by
  unfold hWr; rw [hb]; rfl
theorem hRd_some {fs : List Fd} {max : Int} {s : ByteArray} {x : List Fd × List Fd} (ht : tOk fs max = true) (hs : s.size ≤ 250) (h : rdH 6 fs max (bytesL s) = some x) : hRd fs max s = ((x.1, max), x.2, true) := by
  unfold hRd; rw [ht, decide_eq_true hs, h]; rfl
theorem hRd_none {fs : List Fd} {max : Int} {s : ByteArray} (h : rdH 6 fs max (bytesL s) = none) : hRd fs max s = (([], 0), [], false) := by
  unfold hRd; rw [h]; split <;> rfl
theorem hRd_bad {fs : List Fd} {max : Int} {s : ByteArray} (h : (tOk fs max && decide (s.size ≤ 250)) = false) : hRd fs max s = (([], 0), [], false) := by
  unfold hRd; rw [h]; rfl
/-- What was written is read back. -/
theorem hRd_back {fs : List Fd} {max : Int} {h : List Fd} (ht : tOk fs max = true) (hh : hOk h = true) : hRd fs max (wrH fs max h).2 = (((wrH fs max h).1, max), h, true) := by
  have h1 := hOk_parts hh
  have h2 := wrH_size h fs max
  exact hRd_some ht (by omega) (rdH_write h fs 6 ht h1.1 h1.2)
/-- What is read is ok. -/
theorem step_ok {fs gs : List Fd} {max : Int} {m : Fm} {f : Fd} (ht : tOk fs max = true) (hm : FmOk m) (h : stepL fs max m = some (gs, f)) : tOk gs max = true ∧ fOk f = true := by
  have hname : ∀ n, m.k ≠ 0 → nameOf fs m.w = some n → wOk (bytesL n) = true ∧ bytesL n ≠ [] := by
    intro n hk hn
    unfold nameOf at hn
    by_cases hp : m.w.p = 0
    · rw [if_pos hp] at hn
      injection hn with hn
      obtain ⟨a1, a2, a3⟩ := hm.n hk hp
      rw [← hn]
      exact ⟨wOk_nums a1 a2, by rw [bytesL_strOfNums _ (allS_bd a1)]; exact a3⟩
    · rw [if_neg hp] at hn
      by_cases hb : (atV fs m.w.p).2 = true
      · rw [if_pos hb] at hn
        injection hn with hn
        have := fOk_parts (all_ok ht _ (atV_some hb)).1
        rw [← hn]
        exact ⟨this.1, this.2.1⟩
      · rw [if_neg hb] at hn; cases hn
  have hv := wOk_nums hm.v.1 hm.v.2
  unfold stepL at h
  by_cases h0 : m.k = 0
  · rw [if_pos h0] at h
    by_cases hb : (atV fs m.w.p).2 = true
    · rw [if_pos hb] at h
      injection h with h
      injection h with h1 h2
      subst h1 h2
      exact ⟨ht, (all_ok ht _ (atV_some hb)).1⟩
    · rw [if_neg hb] at h; cases h
  · rw [if_neg h0] at h
    match hn : nameOf fs m.w with
    | none => rw [hn] at h; simp at h
    | some n =>
      obtain ⟨a1, a2⟩ := hname n h0 hn
      rw [hn, Option.map_some, Option.map_some] at h
      split at h
      · injection h with h
        injection h with h1 h2
        subst h1 h2
        have hf := fOk_mk false a1 a2 hv
        exact ⟨fit_ok ht hf, hf⟩
      · injection h with h
        injection h with h1 h2
        subst h1 h2
        exact ⟨ht, fOk_mk true a1 a2 hv⟩
theorem rdH_ok {max : Int} (r : Nat) : ∀ (fs gs h : List Fd) (b : List Int), tOk fs max = true → byteL b → rdH r fs max b = some (gs, h) → tOk gs max = true ∧ (∀ f ∈ h, fOk f = true) ∧ h.length ≤ r ∧ ∀ c k, rdH (h.length + k) fs max (b ++ c) = (rdH k gs max c).map fun x => (x.1, h ++ x.2) := by
  induction r with
  | zero =>
    intro fs gs h b ht hb e
    unfold rdH at e
    by_cases hn : b = []
    · rw [if_pos hn] at e
      injection e with e
      injection e with e1 e2
      subst e1 e2 hn
      refine ⟨ht, by simp, by simp, fun c k => ?_⟩
      rw [List.nil_append, List.length_nil, Nat.zero_add]
      cases rdH k fs max c <;> rfl
    · rw [if_neg hn] at e; cases e
  | succ r ih =>
    intro fs gs h b ht hb e
    unfold rdH at e
    by_cases hn : b = []
    · rw [if_pos hn] at e
      injection e with e
      injection e with e1 e2
      subst e1 e2 hn
      refine ⟨ht, by simp, by simp, fun c k => ?_⟩
      rw [List.nil_append, List.length_nil, Nat.zero_add]
      cases rdH k fs max c <;> rfl
    · rw [if_neg hn] at e
      match hf : formL b with
      | none => rw [hf] at e; cases e
      | some (m, u) =>
        rw [hf, Option.bind_some] at e
        simp only at e
        obtain ⟨f1, f2, f3, f4⟩ := formL_more hb hf
        match hs : stepL fs max m with
        | none => rw [hs] at e; cases e
        | some (ys, f) =>
          rw [hs, Option.bind_some] at e
          simp only at e
          obtain ⟨s1, s2⟩ := step_ok ht f1 hs
          match hr : rdH r ys max (b.drop u) with
          | none => rw [hr] at e; cases e
          | some (zs, t) =>
            rw [hr, Option.map_some] at e
            injection e with e
            injection e with e1 e2
            simp only at e1 e2
            subst e1 e2
            obtain ⟨q1, q2, q3, q4⟩ := ih ys zs t (b.drop u) s1 (byteL_drop hb u) hr
            refine ⟨q1, ?_, by rw [List.length_cons]; omega, fun c k => ?_⟩
            · intro x hx
              rcases List.mem_cons.1 hx with rfl | hx
              · exact s2
              · exact q2 x hx
            · have e3 : (f :: t).length + k = (t.length + k) + 1 := by rw [List.length_cons]; omega
              rw [e3]
              show (if b ++ c = [] then _ else _) = _
              rw [if_neg (by simp [hn]), f4 c, Option.bind_some]
              simp only
              rw [hs, Option.bind_some]
              simp only
              rw [drop_app f3, q4 c k]
              cases rdH k zs max c <;> rfl
theorem hRd_ok {fs gs : List Fd} {max mx : Int} {s : ByteArray} {h : List Fd} (e : hRd fs max s = ((gs, mx), h, true)) : tOk fs max = true ∧ s.size ≤ 250 ∧ mx = max ∧ rdH 6 fs max (bytesL s) = some (gs, h) ∧ tOk gs max = true ∧ hOk h = true := by
  unfold hRd at e
  by_cases hc : (tOk fs max && decide (s.size ≤ 250)) = true
  · rw [if_pos hc] at e
    rw [Bool.and_eq_true, decide_eq_true_eq] at hc
    match hr : rdH 6 fs max (bytesL s) with
    | none => rw [hr] at e; simp at e
    | some (x, y) =>
      rw [hr] at e
      simp at e
      obtain ⟨⟨rfl, rfl⟩, rfl⟩ := e
      obtain ⟨q1, q2, q3, _⟩ := rdH_ok 6 fs _ _ _ hc.1 (bytesL_bd s) hr
      exact ⟨hc.1, hc.2, rfl, rfl, q1, hOk_mk q2 q3⟩
  · rw [if_neg hc] at e; simp at e
theorem hRd_two (fs : List Fd) (max : Int) (s : ByteArray) : hRd fs max s = (([], 0), [], false) ∨ ∃ gs h, hRd fs max s = ((gs, max), h, true) := by
  unfold hRd
  split
  · match rdH 6 fs max (bytesL s) with
    | none => exact .inl rfl
    | some x => exact .inr ⟨_, _, rfl⟩
  · exact .inl rfl
/-- Bytes of two heads. -/
theorem hRd_join {fs gs : List Fd} {max : Int} {s : ByteArray} {h g : List Fd} (e : hRd fs max s = ((gs, max), h, true)) (hg : hOk g = true) (hl : h.length + g.length ≤ 6) (hs : s.size + (wrH gs max g).2.size ≤ 250) : hRd fs max (s ++ (wrH gs max g).2) = (((wrH gs max g).1, max), h ++ g, true) := by
  obtain ⟨h1, h2, _, h4, h5, h6⟩ := hRd_ok e
  obtain ⟨_, _, _, q⟩ := rdH_ok 6 fs gs h (bytesL s) h1 (bytesL_bd s) h4
  have hb := rdH_write g gs (6 - h.length) h5 (hOk_parts hg).1 (by omega)
  have q' := q (bytesL (wrH gs max g).2) (6 - h.length)
  rw [hb, Option.map_some, show h.length + (6 - h.length) = 6 by omega, ← bytesL_append] at q'
  exact hRd_some h1 (by rw [ByteArray.size_append]; exact hs) q'
end Go.Proofs.Ytdnajdobmlgmiaa
