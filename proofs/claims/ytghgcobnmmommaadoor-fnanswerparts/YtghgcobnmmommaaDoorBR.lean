import Derived.Test.YtghgcobnmmommaaDoorPick
import Derived.Test.YtghgcobnmmommaaDoorBA
import Derived.Test.YtghgcobnmmommaaDoorBB
namespace Go.Proofs.YtghgcobnmmommaaDoor
open Go.RowKit
set_option linter.unusedVariables false

/-- A draw goes on: of the world in which it began nothing has turned; the reader lies at block b. -/
structure St (w0 w : World) (b N : Nat) : Prop where
  dr : Dr w b N
  bel : Below b w0 w
  lt : b < w.heap.size
theorem St.alloc {w0 w : World} {b N : Nat} (h : St w0 w b N) (o : Obj) : St w0 (w.alloc o) b N :=
  ⟨h.dr.kept (Below.alloc (Below.refl w.heap.size w) (Nat.le_refl _) o) h.lt, h.bel.alloc (Nat.le_of_lt h.lt) o, by have := h.lt; simp; omega⟩
theorem St.grow {w0 w w' : World} {b N : Nat} (h : St w0 w b N) (hb : Below w.heap.size w w') : St w0 w' b N :=
  ⟨h.dr.kept hb h.lt, h.bel.trans (hb.mono (Nat.le_of_lt h.lt)), Nat.lt_of_lt_of_le h.lt hb.size⟩

theorem pick_st (b N : Nat) (n : Int) (w0 w : World) (h : St w0 w b N) (hN : N ≤ 1000000) (hn : 1 ≤ n) :
    Calls Tryd.prog 18 #[.pointer (some ⟨b, 0, none⟩), .int .i64 n] w fun e w' => ∃ v, e = .returned (.int .i64 v) ∧ 0 ≤ v ∧ v ≤ n - 1 ∧ St w0 w' b (N + 1) ∧ Only b w w' := by
  refine (pick_pos b N n w h.dr hN hn).mono ?_
  rintro e w' ⟨v, rfl, v0, v1, hd, ho⟩
  exact ⟨v, rfl, v0, v1, ⟨hd, ho.under h.bel (Nat.le_refl _), by rw [ho.size]; exact h.lt⟩, ho⟩

theorem open_st (a : Option Addr) (len cap : Nat) (zs : List Int) (w : World) (hr : Row w a len cap zs) :
    Calls Tryd.prog 9 #[.slice a len cap] w fun e w' => e = .returned (.pointer (some ⟨w.heap.size, 0, none⟩)) ∧ St w w' w.heap.size 0 := by
  refine (l6Open_any a len cap zs w hr).mono ?_
  rintro e w' ⟨rfl, hd, hb, hs⟩
  exact ⟨rfl, hd, hb, by omega⟩

/-- One of a list of numbers that was laid, behind a pick. -/
theorem idxL {w W : World} {b : Nat} {t : TypeId} (xs : List Int) (lo hi : Int) (ho : Only b (w.alloc (.cells (xs.map (Value.int .i64)).toArray t)) W) (hb : b < w.heap.size) (v : Int) (v0 : 0 ≤ v) (v1 : v < xs.length)
    (hx : ∀ x ∈ xs, lo ≤ x ∧ x ≤ hi) : ∃ y, W.cell? ⟨w.heap.size, v.toNat, none⟩ = some (.int .i64 y) ∧ lo ≤ y ∧ y ≤ hi := by
  have hi' : v.toNat < xs.length := by omega
  refine ⟨xs[v.toNat], ?_, hx _ (List.getElem_mem hi')⟩
  rw [ho.cell (p := ⟨w.heap.size, v.toNat, none⟩) (by show w.heap.size ≠ b; omega)]
  simp [hi']

end Go.Proofs.YtghgcobnmmommaaDoor

namespace Go.Proofs.YtghgcobnmmommaaDoor
open Go.RowKit
set_option linter.unusedVariables false

theorem St.more {w0 w : World} {b N M : Nat} (h : St w0 w b N) (hM : N ≤ M) : St w0 w b M := by
  obtain ⟨⟨a, len, cap, pn, zs, c0, c1, f1, hp, hl, hz⟩, h2, h3⟩ := h
  exact ⟨⟨a, len, cap, pn, zs, c0, c1, f1, Nat.le_trans hp hM, hl, hz⟩, h2, h3⟩

end Go.Proofs.YtghgcobnmmommaaDoor

namespace Go.Proofs.YtghgcobnmmommaaDoor
open Go.RowKit
set_option linter.unusedVariables false

/-- A draw goes on: but for the reader, which lies at block b, nothing that lay in the world in which it began has turned. -/
structure St2 (w0 w : World) (b N : Nat) : Prop where
  dr : Dr w b N
  kept : w0.grownBy w (some b)
  lt : b < w.heap.size
theorem grown_trans2 {a b c : World} {row : Option Nat} (h : a.grownBy b row) (k : b.grownBy c row) : a.grownBy c row :=
  ⟨k.os.trans h.os, k.tape.trans h.tape, k.output.trans h.output, Nat.le_trans h.size k.size, fun i hi hne => (k.block i (Nat.lt_of_lt_of_le hi h.size) hne).trans (h.block i hi hne)⟩
theorem grown_of_below {a b : World} (row : Option Nat) (h : Below a.heap.size a b) : a.grownBy b row := ⟨h.os, h.tape, h.output, h.size, fun i hi _ => h.block i hi⟩
theorem grown_of_only {a c : World} {b : Nat} (h : Only b a c) : a.grownBy c (some b) := ⟨h.os, h.tape, h.output, Nat.le_of_eq h.size.symm, fun i _ hne => h.block i (fun e => hne (by rw [e]))⟩
theorem St2.start {w : World} {b N : Nat} (h : Dr w b N) (hl : b < w.heap.size) : St2 w w b N := ⟨h, ⟨rfl, rfl, rfl, Nat.le_refl _, fun _ _ _ => rfl⟩, hl⟩
theorem St2.grow {w0 w w' : World} {b N : Nat} (h : St2 w0 w b N) (hb : Below w.heap.size w w') : St2 w0 w' b N :=
  ⟨h.dr.kept hb h.lt, grown_trans2 h.kept (grown_of_below _ hb), Nat.lt_of_lt_of_le h.lt hb.size⟩
theorem St2.alloc {w0 w : World} {b N : Nat} (h : St2 w0 w b N) (o : Obj) : St2 w0 (w.alloc o) b N := h.grow ((Below.refl _ _).alloc (Nat.le_refl _) _)
theorem St2.more2 {w0 w : World} {b N M : Nat} (h : St2 w0 w b N) (hM : N ≤ M) : St2 w0 w b M := by
  obtain ⟨⟨a, len, cap, pn, zs, c0, c1, f1, hp, hl, hz⟩, h2, h3⟩ := h
  exact ⟨⟨a, len, cap, pn, zs, c0, c1, f1, Nat.le_trans hp hM, hl, hz⟩, h2, h3⟩
theorem pick_st2 (b N : Nat) (n : Int) (w0 w : World) (h : St2 w0 w b N) (hN : N ≤ 1000000) (hn : 1 ≤ n) :
    Calls Tryd.prog 18 #[.pointer (some ⟨b, 0, none⟩), .int .i64 n] w fun e w' => ∃ v, e = .returned (.int .i64 v) ∧ 0 ≤ v ∧ v ≤ n - 1 ∧ St2 w0 w' b (N + 1) ∧ Only b w w' := by
  refine (pick_pos b N n w h.dr hN hn).mono ?_
  rintro e w' ⟨v, rfl, v0, v1, hd, ho⟩
  exact ⟨v, rfl, v0, v1, ⟨hd, grown_trans2 h.kept (grown_of_only ho), by rw [ho.size]; exact h.lt⟩, ho⟩

set_option maxRecDepth 100000 in
set_option maxHeartbeats 400000 in
theorem of_2 (b N g L cap B : Nat) (w0 w : World) (hst : St2 w0 w b N) (hN : N ≤ 900000) (hL : 1 ≤ L) (hL2 : L ≤ 100) (hg : g ≠ b) (hc : ∀ i, i < L → ∃ t : ByteArray, t.size ≤ B ∧ w.cell? ⟨g, i, none⟩ = some (.string t)) :
    Calls Tryd.prog 17 #[.pointer (some ⟨b, 0, none⟩), .slice (some ⟨g, 0, none⟩) L cap] w fun e w' => ∃ t : ByteArray, e = .returned (.string t) ∧ t.size ≤ B ∧ St2 w0 w' b (N + 1) := by
  have HC : Hid (∀ i, i < L → ∃ t : ByteArray, t.size ≤ B ∧ w.cell? ⟨g, i, none⟩ = some (.string t)) := hc
  clear hc
  go_enter Tryd.func17, Tryd.ntmps17
  go_wp2_with fail
  refine (pick_st2 _ _ _ _ _ hst (by omega) (by omega)).mono ?_
  rintro e w1 ⟨v, rfl, v0, v1, s1, o1⟩
  obtain ⟨kn, rfl⟩ : ∃ kn : Nat, v = (kn : Int) := ⟨v.toNat, by omega⟩
  obtain ⟨t, ht, hct⟩ := HC.out kn (by omega)
  have hcell : w1.cell? ⟨g, kn, none⟩ = some (.string t) := (o1.cell (p := ⟨g, kn, none⟩) hg).trans hct
  have hkl : (kn : Int) < L := by omega
  clear hct o1 hst
  go_wp2
  go_ret
  exact ⟨_, rfl, ht, s1⟩

theorem str_cells2 (w : World) (e : TypeId) (xs : List ByteArray) (B : Nat) (h : ∀ x ∈ xs, x.size ≤ B) : ∀ i, i < xs.length → ∃ t : ByteArray, t.size ≤ B ∧ (w.alloc (.cells (xs.map Value.string).toArray e)).cell? ⟨w.heap.size, i, none⟩ = some (.string t) := by
  intro i hi
  exact ⟨xs[i], h _ (List.getElem_mem hi), by simp [hi]⟩

end Go.Proofs.YtghgcobnmmommaaDoor

namespace Go.Proofs.YtghgcobnmmommaaDoor
open Go.RowKit
set_option linter.unusedVariables false

theorem St2.step {w0 w w' : World} {b N M : Nat} (h : St2 w0 w b N) (k : St2 w w' b M) : St2 w0 w' b M := ⟨k.dr, grown_trans2 h.kept k.kept, k.lt⟩
theorem St2.self {w0 w : World} {b N : Nat} (h : St2 w0 w b N) : St2 w w b N := St2.start h.dr h.lt
theorem St2.blk {w w' : World} {b N B : Nat} {o : Obj} (h : St2 w w' b N) (hb : w.heap[B]? = some o) (hne : B ≠ b) : w'.heap[B]? = some o :=
  (h.kept.block B (Array.getElem?_eq_some_iff.1 hb).1 (fun e => hne (by injection e))).trans hb

theorem St2.set {w0 w : World} {b N : Nat} (h : St2 w0 w b N) (p : Addr) (v : Value) (hp : w0.heap.size ≤ p.block) (hb : b < p.block) : St2 w0 (w.setCell p v) b N := by
  have hg : w.grownBy (w.setCell p v) (some p.block) := ⟨rfl, rfl, rfl, by simp [World.setCell], fun k _ hk => Below.heap_setCell _ _ _ k (fun e => hk (by rw [e]))⟩
  refine ⟨?_, ⟨h.kept.os, h.kept.tape, h.kept.output, Nat.le_trans h.kept.size hg.size, fun k hk hne => (hg.block k (Nat.lt_of_lt_of_le hk h.kept.size) (fun e => by injection e with e; omega)).trans (h.kept.block k hk hne)⟩, Nat.lt_of_lt_of_le h.lt hg.size⟩
  exact h.dr.kept ((Below.refl (b + 1) w).grown hg (by have := h.lt; omega) (fun k e => by injection e with e; omega)) (Nat.lt_succ_self b)
theorem St2.setRow {w0 w : World} {b N : Nat} (h : St2 w0 w b N) (g : Nat) (cs : Array Value) (hp : w0.heap.size ≤ g) (hb : b < g) : St2 w0 (w.setRow g cs) b N := by
  have hg := grown_setRowT w g cs
  refine ⟨?_, ⟨h.kept.os, h.kept.tape, h.kept.output, Nat.le_trans h.kept.size hg.size, fun k hk hne => (hg.block k (Nat.lt_of_lt_of_le hk h.kept.size) (fun e => by injection e with e; omega)).trans (h.kept.block k hk hne)⟩, Nat.lt_of_lt_of_le h.lt hg.size⟩
  exact h.dr.kept ((Below.refl (b + 1) w).grown hg (by have := h.lt; omega) (fun k e => by injection e with e; omega)) (Nat.lt_succ_self b)
theorem set3_heapT {W : World} {B : Nat} {a b c : Value} {t : TypeId} (o : Nat) (x : Value) (h : W.heap[B]? = some (.cells #[a, b, c] t (0, 0))) : (W.setCell ⟨B, o, none⟩ x).heap[B]? = some (.cells (#[a, b, c].setIfInBounds o x) t (0, 0)) := by
  obtain ⟨hlt, hk⟩ := Array.getElem?_eq_some_iff.1 h
  show (W.heap.modify B _)[B]? = _
  rw [Array.getElem?_eq_getElem (by rw [Array.size_modify]; exact hlt), Array.getElem_modify_self, hk]
  rfl
theorem frz3 {W : World} {B : Nat} {cs : Array Value} {t : TypeId} (o : Nat) (h : W.heap[B]? = some (.cells cs t (0, 0))) : W.frozen? ⟨B, o, none⟩ = false := by simp [World.frozen?, h]

end Go.Proofs.YtghgcobnmmommaaDoor
