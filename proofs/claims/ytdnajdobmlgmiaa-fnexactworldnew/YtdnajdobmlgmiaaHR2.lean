import Derived.Test.YtdnajdobmlgmiaaHR1
namespace Go.Proofs.Ytdnajdobmlgmiaa
open Go.RowKit
set_option linter.unusedVariables false

def b0L (s : ByteArray) : Int := (bytesL s).headD 0
/-- What the model reads of a field. -/
def oneV (fs : List Fd) (max : Int) (s : ByteArray) : List Fd × Fd × Int × Bool :=
  if 128 ≤ b0L s then (fs, (atV fs (rdV s 7).1).1, (rdV s 7).2.1, (rdV s 7).2.2 && (atV fs (rdV s 7).1).2)
  else if 64 ≤ b0L s then (if (litV fs s 6).2.2 then (fitL max (⟨(litV fs s 6).1.n, (litV fs s 6).1.v, false⟩ :: fs), (litV fs s 6).1, (litV fs s 6).2.1, true) else (fs, (litV fs s 6).1, 0, false))
  else if 16 ≤ b0L s ∧ b0L s ≤ 31 then (fs, ⟨(litV fs s 4).1.n, (litV fs s 4).1.v, true⟩, (litV fs s 4).2.1, (litV fs s 4).2.2)
  else (fs, zFd, 0, false)
theorem litV_is (fs : List Fd) (s : ByteArray) (bits : Int) (b0 : 3 ≤ bits) (b1 : bits ≤ 7) :
    ((litV fs s bits).2.2 = true ∧ ∃ x u n, litL (pw bits) (bytesL s) = some (x, u) ∧ nameOf fs x = some n ∧ litV fs s bits = (⟨n, strOfNums x.v, false⟩, (u : Int), true)) ∨
    ((litV fs s bits).2.2 = false ∧ (litL (pw bits) (bytesL s) = none ∨ ∃ x u, litL (pw bits) (bytesL s) = some (x, u) ∧ nameOf fs x = none)) := by
  have hP := pw_bd bits b0 b1
  have hrd : rdV s bits = rd (pw bits) (bytesL s) := by unfold rdV; rw [if_pos ⟨b0, b1⟩]
  unfold litV litL
  rw [hrd]
  obtain ⟨⟨p, u, ok⟩, hr⟩ : ∃ r, rd (pw bits) (bytesL s) = r := ⟨_, rfl⟩
  rw [hr]
  dsimp only
  cases ok with
  | false =>
    refine .inr ⟨by rw [if_pos rfl], .inl (by rw [if_pos rfl])⟩
  | true =>
    obtain ⟨p0, p1, u0, u1, _⟩ := rd_more (bytesL_bd s) hP.1 hP.2 hr
    simp only [Bool.true_eq_false, if_false]
    by_cases hp : p = 0
    · rw [if_pos hp, if_pos hp]
      match h1 : rdWL ((bytesL s).drop u.toNat) with
      | none =>
        rw [rdWV_none (b := restS s u) (by rw [bytesL_rest]; exact h1), if_pos (.inl rfl)]
        exact .inr ⟨rfl, .inl rfl⟩
      | some (nl, m) =>
        have hx := rdWV_some (b := restS s u) (by rw [bytesL_rest]; exact h1)
        obtain ⟨n1, n2, n3, n4, _⟩ := rdWL_more (byteL_drop (bytesL_bd s) _) h1
        rw [hx, Option.bind_some]
        dsimp only
        have hsz : (strOfNums nl).size = nl.length := strOfNums_size nl
        by_cases hn : nl = []
        · rw [if_pos (.inr (by rw [hsz, hn]; rfl)), if_pos hn]
          exact .inr ⟨rfl, .inl rfl⟩
        · have hl : nl.length ≠ 0 := fun e => hn (List.eq_nil_of_length_eq_zero e)
          rw [if_neg (by rintro (c | c); cases c; omega), if_neg hn]
          match h2 : rdWL ((bytesL s).drop (u + m).toNat) with
          | none =>
            rw [rdWV_none (b := restS s (u + m)) (by rw [bytesL_rest]; exact h2)]
            exact .inr ⟨rfl, .inl rfl⟩
          | some (vl, k) =>
            obtain ⟨v1, v2, v3, v4, _⟩ := rdWL_more (byteL_drop (bytesL_bd s) _) h2
            rw [rdWV_some (b := restS s (u + m)) (by rw [bytesL_rest]; exact h2), Option.map_some]
            refine .inl ⟨rfl, _, _, strOfNums nl, rfl, ?_, ?_⟩
            · unfold nameOf; rw [if_pos rfl]
            · dsimp only; rw [Int.toNat_of_nonneg (by omega)]
    · rw [if_neg hp, if_neg hp]
      match h2 : rdWL ((bytesL s).drop u.toNat) with
      | none =>
        rw [rdWV_none (b := restS s u) (by rw [bytesL_rest]; exact h2)]
        refine .inr ⟨?_, .inl rfl⟩
        split <;> rfl
      | some (vl, k) =>
        obtain ⟨v1, v2, v3, v4, _⟩ := rdWL_more (byteL_drop (bytesL_bd s) _) h2
        rw [rdWV_some (b := restS s u) (by rw [bytesL_rest]; exact h2), Option.map_some]
        cases hb : (atV fs p).2 with
        | false =>
          refine .inr ⟨by rw [if_pos rfl], .inr ⟨_, _, rfl, ?_⟩⟩
          unfold nameOf; dsimp only; rw [if_neg hp, hb]; rfl
        | true =>
          rw [if_neg (by decide)]
          refine .inl ⟨rfl, _, _, (atV fs p).1.n, rfl, ?_, ?_⟩
          · unfold nameOf; dsimp only; rw [if_neg hp, hb]; rfl
          · dsimp only; rw [Int.toNat_of_nonneg (by omega)]
/-- What the model reads of a field is the form's step. -/
theorem oneV_is (fs : List Fd) (max : Int) (s : ByteArray) :
    ((oneV fs max s).2.2.2 = true ∧ ∃ m u, formL (bytesL s) = some (m, u) ∧ stepL fs max m = some ((oneV fs max s).1, (oneV fs max s).2.1) ∧ (oneV fs max s).2.2.1 = (u : Int)) ∨
    ((oneV fs max s).2.2.2 = false ∧ (formL (bytesL s) = none ∨ ∃ m u, formL (bytesL s) = some (m, u) ∧ stepL fs max m = none)) := by
  have hb0 : b0L s = (bytesL s).headD 0 := rfl
  unfold oneV formL
  rw [hb0]
  by_cases h1 : 128 ≤ (bytesL s).headD 0
  · rw [if_pos h1, if_pos h1]
    have hrd : rdV s 7 = rd 128 (bytesL s) := by unfold rdV; rw [if_pos ⟨by decide, by decide⟩, pw7]
    rw [hrd]
    obtain ⟨⟨p, u, ok⟩, hr⟩ : ∃ r, rd 128 (bytesL s) = r := ⟨_, rfl⟩
    rw [hr]
    dsimp only
    cases ok with
    | false => exact .inr ⟨rfl, .inl rfl⟩
    | true =>
      obtain ⟨p0, p1, u0, u1, _⟩ := rd_more (bytesL_bd s) (by decide) (by decide) hr
      cases hb : (atV fs p).2 with
      | false =>
        refine .inr ⟨rfl, .inr ⟨_, _, by rw [if_pos rfl], ?_⟩⟩
        unfold stepL; dsimp only; rw [if_pos rfl, hb]; rfl
      | true =>
        refine .inl ⟨rfl, _, _, by rw [if_pos rfl], ?_, ?_⟩
        · unfold stepL; dsimp only; rw [if_pos rfl, hb]; rfl
        · rw [Int.toNat_of_nonneg (by omega)]
  · rw [if_neg h1, if_neg h1]
    by_cases h2 : 64 ≤ (bytesL s).headD 0
    · rw [if_pos h2, if_pos h2]
      rcases litV_is fs s 6 (by decide) (by decide) with ⟨e, x, u, n, a1, a2, a3⟩ | ⟨e, a⟩
      · rw [pw6] at a1
        rw [a3, a1]
        dsimp only
        rw [if_pos rfl]
        refine .inl ⟨rfl, _, _, rfl, ?_, rfl⟩
        unfold stepL; dsimp only; rw [if_neg (by decide), if_pos rfl, a2]; rfl
      · rw [pw6] at a
        rw [e, if_neg (by decide)]
        refine .inr ⟨rfl, ?_⟩
        rcases a with a | ⟨x, u, a1, a2⟩
        · rw [a]; exact .inl rfl
        · rw [a1]
          refine .inr ⟨_, _, rfl, ?_⟩
          unfold stepL; dsimp only; rw [if_neg (by decide), if_pos rfl, a2]; rfl
    · rw [if_neg h2, if_neg h2]
      by_cases h3 : 16 ≤ (bytesL s).headD 0 ∧ (bytesL s).headD 0 ≤ 31
      · rw [if_pos h3, if_pos h3]
        rcases litV_is fs s 4 (by decide) (by decide) with ⟨e, x, u, n, a1, a2, a3⟩ | ⟨e, a⟩
        · rw [pw4] at a1
          rw [a3, a1]
          dsimp only
          refine .inl ⟨rfl, _, _, rfl, ?_, rfl⟩
          unfold stepL; dsimp only; rw [if_neg (by decide), if_neg (by decide), a2]; rfl
        · rw [pw4] at a
          refine .inr ⟨e, ?_⟩
          rcases a with a | ⟨x, u, a1, a2⟩
          · rw [a]; exact .inl rfl
          · rw [a1]
            refine .inr ⟨_, _, rfl, ?_⟩
            unfold stepL; dsimp only; rw [if_neg (by decide), if_neg (by decide), a2]; rfl
      · rw [if_neg h3, if_neg h3]
        exact .inr ⟨rfl, .inl rfl⟩
theorem results_cc2 {fn : Func} {p q r t : Tmp} {ty ty2 : TypeId} (h : fn.results = #[.cell p ty, .cell q ty2, .tmp r, .tmp t]) (tmps : Array Value) (w : World) (g g2 : Nat) (cs cs2 : Array Value)
    (hp : tmps.getD p undef = .pointer (some ⟨g, 0, none⟩)) (hl : (loadVar ty ⟨g, 0, none⟩).run Try.prog w = .ok (.agg cs) w) (hq : tmps.getD q undef = .pointer (some ⟨g2, 0, none⟩)) (hl2 : (loadVar ty2 ⟨g2, 0, none⟩).run Try.prog w = .ok (.agg cs2) w) :
    (results fn tmps).run Try.prog w = .ok (.tuple #[.agg cs, .agg cs2, tmps.getD r undef, tmps.getD t undef]) w := by
  have hp' : tmps[p]?.getD undef = .pointer (some ⟨g, 0, none⟩) := by simpa using hp
  have hq' : tmps[q]?.getD undef = .pointer (some ⟨g2, 0, none⟩) := by simpa using hq
  simp [results, h, hp', hq', asAddr, hl, hl2]
theorem Fs.setc {W : World} {a : Option Addr} {n cap B : Nat} {fs : List Fd} (h : Fs W a n cap fs) (o : Nat) (v : Value) (hne : ∀ g x, a = some ⟨g, x, none⟩ → 0 < n → g ≠ B) : Fs (W.setCell ⟨B, o, none⟩ v) a n cap fs := by
  refine ⟨h.len, h.le, h.cmax, ?_, h.some', h.form⟩
  intro g x e j u hu
  have hn : 0 < n := by
    obtain ⟨hj, _⟩ := List.getElem?_eq_some_iff.1 hu
    rw [cellsF_length, h.len] at hj
    omega
  rw [cell_set _ _ _ _ (hne g x e hn)]
  exact h.cells g x e j u hu
/-- The table lies where it lay, or in new memory. -/
def Apart (w : World) (a : Option Addr) (n : Nat) (a' : Option Addr) (n' : Nat) : Prop := (a' = a ∧ n' = n) ∨ ∀ g o, a' = some ⟨g, o, none⟩ → w.heap.size ≤ g
theorem own_ge {w : World} {base n cap : Nat} {a : Option Addr} {e : TypeId} {size : Nat} {xs : List Value} (h : w.ownsRow base e size (.slice a n cap) n xs) : ∀ g o, a = some ⟨g, o, none⟩ → base ≤ g := by
  rintro g o rfl
  exact (h.lt g rfl).1
theorem Fs.lt2 {w : World} {a : Option Addr} {n cap : Nat} {fs : List Fd} (h : Fs w a n cap fs) : ∀ g x, a = some ⟨g, x, none⟩ → 0 < n → g < w.heap.size := by
  rintro g x rfl hn
  exact h.lt hn
/-- The two results of reading a field: a table at B, a field behind it. -/
theorem two_rows {W : World} {B : Nat} {p q x y z : Value} {t1 t2 : TypeId} (h1 : W.heap[B]? = some (.cells #[p, q] t1 (0, 0))) (h2 : W.heap[B + 1]? = some (.cells #[x, y, z] t2 (0, 0))) (p' q' x' y' z' : Value) :
    (((((W.setCell ⟨B, 0, none⟩ p').setCell ⟨B, 1, none⟩ q').setCell ⟨B + 1, 0, none⟩ x').setCell ⟨B + 1, 1, none⟩ y').setCell ⟨B + 1, 2, none⟩ z').heap[B]? = some (.cells #[p', q'] t1 (0, 0)) ∧
    (((((W.setCell ⟨B, 0, none⟩ p').setCell ⟨B, 1, none⟩ q').setCell ⟨B + 1, 0, none⟩ x').setCell ⟨B + 1, 1, none⟩ y').setCell ⟨B + 1, 2, none⟩ z').heap[B + 1]? = some (.cells #[x', y', z'] t2 (0, 0)) := by
  have hn : B ≠ B + 1 := by omega
  exact ⟨setc_other 2 z' (setc_other 1 y' (setc_other 0 x' (set2_heap p' q' h1) hn) hn) hn, set3_heap x' y' z' (setc_other 1 q' (setc_other 0 p' h2 hn.symm) hn.symm)⟩
theorem bel5 {n : Nat} {w W : World} {B : Nat} (h : Below n w W) (hB : n ≤ B) (p q x y z : Value) : Below n w (((((W.setCell ⟨B, 0, none⟩ p).setCell ⟨B, 1, none⟩ q).setCell ⟨B + 1, 0, none⟩ x).setCell ⟨B + 1, 1, none⟩ y).setCell ⟨B + 1, 2, none⟩ z) :=
  bel3 ((h.setCell (p := ⟨B, 0, none⟩) hB p).setCell (p := ⟨B, 1, none⟩) hB q) (by omega) x y z
theorem Fs.set5 {W : World} {a : Option Addr} {n cap B : Nat} {fs : List Fd} (h : Fs W a n cap fs) (hne : ∀ g x, a = some ⟨g, x, none⟩ → 0 < n → g ≠ B ∧ g ≠ B + 1) (p q x y z : Value) : Fs (((((W.setCell ⟨B, 0, none⟩ p).setCell ⟨B, 1, none⟩ q).setCell ⟨B + 1, 0, none⟩ x).setCell ⟨B + 1, 1, none⟩ y).setCell ⟨B + 1, 2, none⟩ z) a n cap fs := by
  have h1 := fun g x e hn => (hne g x e hn).1
  have h2 := fun g x e hn => (hne g x e hn).2
  exact ((((h.setc 0 p h1).setc 1 q h1).setc 0 x h2).setc 1 y h2).setc 2 z h2
theorem drew_heap (W : World) : W.drew.heap = W.heap := rfl
theorem Fs.set5d {W : World} {a : Option Addr} {n cap B : Nat} {fs : List Fd} (h : Fs W a n cap fs) (hne : ∀ g x, a = some ⟨g, x, none⟩ → 0 < n → g ≠ B ∧ g ≠ B + 1) (p q x y z : Value) : Fs (((((W.setCell ⟨B, 0, none⟩ p).setCell ⟨B, 1, none⟩ q).setCell ⟨B + 1, 0, none⟩ x).setCell ⟨B + 1, 1, none⟩ y).setCell ⟨B + 1, 2, none⟩ z).drew a n cap fs :=
  (h.set5 hne p q x y z).below ((Below.refl _ _).drew)
theorem bel5d {n : Nat} {w W : World} {B : Nat} (h : Below n w W) (hB : n ≤ B) (p q x y z : Value) : Below n w (((((W.setCell ⟨B, 0, none⟩ p).setCell ⟨B, 1, none⟩ q).setCell ⟨B + 1, 0, none⟩ x).setCell ⟨B + 1, 1, none⟩ y).setCell ⟨B + 1, 2, none⟩ z).drew := (bel5 h hB p q x y z).drew
theorem two_rowsd {W : World} {B : Nat} {p q x y z : Value} {t1 t2 : TypeId} (h1 : W.heap[B]? = some (.cells #[p, q] t1 (0, 0))) (h2 : W.heap[B + 1]? = some (.cells #[x, y, z] t2 (0, 0))) (p' q' x' y' z' : Value) :
    (((((W.setCell ⟨B, 0, none⟩ p').setCell ⟨B, 1, none⟩ q').setCell ⟨B + 1, 0, none⟩ x').setCell ⟨B + 1, 1, none⟩ y').setCell ⟨B + 1, 2, none⟩ z').drew.heap[B]? = some (.cells #[p', q'] t1 (0, 0)) ∧
    (((((W.setCell ⟨B, 0, none⟩ p').setCell ⟨B, 1, none⟩ q').setCell ⟨B + 1, 0, none⟩ x').setCell ⟨B + 1, 1, none⟩ y').setCell ⟨B + 1, 2, none⟩ z').drew.heap[B + 1]? = some (.cells #[x', y', z'] t2 (0, 0)) := by
  rw [drew_heap]
  exact two_rows h1 h2 p' q' x' y' z'
end Go.Proofs.Ytdnajdobmlgmiaa
