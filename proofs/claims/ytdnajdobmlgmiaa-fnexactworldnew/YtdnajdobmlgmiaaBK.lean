import Derived.Test.YtdnajdobmlgmiaaBJ
namespace Go.Proofs.Ytdnajdobmlgmiaa
open Go.RowKit
set_option linter.unusedVariables false

/-- A place in a ring of R places: so many behind the first. -/
def pl (fi a R : Nat) : Nat := if fi + a < R then fi + a else fi + a - R
theorem pl_lt {fi a R : Nat} (h : fi < R) (ha : a ≤ R) : pl fi a R < R := by unfold pl; split <;> omega
theorem pl_mod {fi a R : Nat} (h : fi < R) (ha : a ≤ R) : ((fi : Int) + (a : Int)) % (R : Int) = (pl fi a R : Nat) := by
  unfold pl
  split
  · rw [Int.emod_eq_of_lt (by omega) (by omega)]; omega
  · have : ((fi : Int) + a) = ((fi + a - R : Nat) : Int) + R := by omega
    rw [this, Int.add_emod_right, Int.emod_eq_of_lt (by omega) (by omega)]
theorem pl_inj {fi a b R : Nat} (h : fi < R) (ha : a < R) (hb : b < R) (e : pl fi a R = pl fi b R) : a = b := by
  unfold pl at e
  split at e <;> split at e <;> omega
theorem pl_back {fi a R : Nat} (h : fi < R) (ha : a + 1 ≤ R) : pl (pl fi (R - 1) R) (a + 1) R = pl fi a R := by
  unfold pl
  repeat' split
  all_goals omega
theorem pl_zero {fi R : Nat} (h : fi < R) : pl fi 0 R = fi := by unfold pl; rw [if_pos (by omega)]; omega
/-- The cells of a field that lie at a place. -/
def atC (C : Array Value) (p : Nat) (f : Fd) : Prop := C[p * 3]? = some (.string f.n) ∧ C[p * 3 + 1]? = some (.string f.v) ∧ C[p * 3 + 2]? = some (.bool f.q)
theorem setC_heap {W : World} {B : Nat} {cs : Array Value} {t : TypeId} (o : Nat) (v : Value) (h : W.heap[B]? = some (.cells cs t (0, 0))) : (W.setCell ⟨B, o, none⟩ v).heap[B]? = some (.cells (cs.setIfInBounds o v) t (0, 0)) := by
  obtain ⟨hlt, hk⟩ := Array.getElem?_eq_some_iff.1 h
  show (W.heap.modify B _)[B]? = _
  rw [Array.getElem?_eq_getElem (by rw [Array.size_modify]; exact hlt), Array.getElem_modify_self, hk]
  rfl
theorem setC_other {W : World} {B g : Nat} {o : Option Obj} (k : Nat) (v : Value) (hne : g ≠ B) (h : W.heap[g]? = o) : (W.setCell ⟨B, k, none⟩ v).heap[g]? = o :=
  (Below.heap_setCell W ⟨B, k, none⟩ v g hne).trans h
/-- Three cells of a row are set. -/
def set3C (C : Array Value) (p : Nat) (f : Fd) : Array Value := ((C.setIfInBounds (p * 3) (.string f.n)).setIfInBounds (p * 3 + 1) (.string f.v)).setIfInBounds (p * 3 + 2) (.bool f.q)
theorem set3C_size (C : Array Value) (p : Nat) (f : Fd) : (set3C C p f).size = C.size := by simp [set3C]
theorem set3C_at (C : Array Value) (p R : Nat) (f : Fd) (hp : p < R) (hC : C.size = R * 3) : atC (set3C C p f) p f := by
  unfold atC set3C
  refine ⟨?_, ?_, ?_⟩ <;> (simp only [Array.getElem?_setIfInBounds, Array.size_setIfInBounds, hC])
  · rw [if_neg (by omega), if_neg (by omega), if_pos trivial, if_pos (by omega)]
  · rw [if_neg (by omega), if_pos trivial, if_pos (by omega)]
  · rw [if_pos trivial, if_pos (by omega)]
theorem set3C_other (C : Array Value) (p q : Nat) (f x : Fd) (hp : p ≠ q) (h : atC C q x) : atC (set3C C p f) q x := by
  unfold atC set3C at *
  obtain ⟨h0, h1, h2⟩ := h
  refine ⟨?_, ?_, ?_⟩ <;> (simp only [Array.getElem?_setIfInBounds])
  · rw [if_neg (by omega), if_neg (by omega), if_neg (by omega)]; exact h0
  · rw [if_neg (by omega), if_neg (by omega), if_neg (by omega)]; exact h1
  · rw [if_neg (by omega), if_neg (by omega), if_neg (by omega)]; exact h2

/-- Of a row of three: its cells, and that none is frozen. -/
theorem row3 {W : World} {B : Nat} {a b c : Value} {t : TypeId} (h : W.heap[B]? = some (.cells #[a, b, c] t (0, 0))) : W.cell? ⟨B, 0, none⟩ = some a ∧ W.cell? ⟨B, 1, none⟩ = some b ∧ W.cell? ⟨B, 2, none⟩ = some c ∧ W.frozen? ⟨B, 0, none⟩ = false ∧ W.frozen? ⟨B, 1, none⟩ = false ∧ W.frozen? ⟨B, 2, none⟩ = false :=
  ⟨cell_of_row _ _ 0 _ _ _ h, cell_of_row _ _ 1 _ _ _ h, cell_of_row _ _ 2 _ _ _ h, frz 0 h, frz 1 h, frz 2 h⟩
/-- Of a place of a row of fields: there are cells, and none is frozen. -/
theorem rowP {W : World} {g R p : Nat} {C : Array Value} {t : TypeId} (h : W.heap[g]? = some (.cells C t (0, 0))) (hC : C.size = R * 3) (hp : p < R) : ∃ x y z, W.cell? ⟨g, p * 3, none⟩ = some x ∧ W.cell? ⟨g, p * 3 + 1, none⟩ = some y ∧ W.cell? ⟨g, p * 3 + 2, none⟩ = some z ∧ W.frozen? ⟨g, p * 3, none⟩ = false ∧ W.frozen? ⟨g, p * 3 + 1, none⟩ = false ∧ W.frozen? ⟨g, p * 3 + 2, none⟩ = false := by
  refine ⟨C[p * 3]'(by omega), C[p * 3 + 1]'(by omega), C[p * 3 + 2]'(by omega), ?_, ?_, ?_, frz _ h, frz _ h, frz _ h⟩
  · rw [cell_of_row _ _ _ _ _ _ h, Array.getElem?_eq_getElem]
  · rw [cell_of_row _ _ _ _ _ _ h, Array.getElem?_eq_getElem]
  · rw [cell_of_row _ _ _ _ _ _ h, Array.getElem?_eq_getElem]
theorem keep5 {W : World} {B V g : Nat} {a b x y z : Value} (p : Nat) (u v q : Value) (hB : B ≠ g) (hV : V ≠ g) (h0 : W.cell? ⟨B, 0, none⟩ = some a) (h1 : W.cell? ⟨B, 1, none⟩ = some b) (h2 : W.cell? ⟨V, 0, none⟩ = some x) (h3 : W.cell? ⟨V, 1, none⟩ = some y) (h4 : W.cell? ⟨V, 2, none⟩ = some z) :
    (((W.setCell ⟨g, p, none⟩ u).setCell ⟨g, p + 1, none⟩ v).setCell ⟨g, p + 2, none⟩ q).cell? ⟨B, 0, none⟩ = some a ∧ (((W.setCell ⟨g, p, none⟩ u).setCell ⟨g, p + 1, none⟩ v).setCell ⟨g, p + 2, none⟩ q).cell? ⟨B, 1, none⟩ = some b ∧ (((W.setCell ⟨g, p, none⟩ u).setCell ⟨g, p + 1, none⟩ v).setCell ⟨g, p + 2, none⟩ q).cell? ⟨V, 0, none⟩ = some x ∧ (((W.setCell ⟨g, p, none⟩ u).setCell ⟨g, p + 1, none⟩ v).setCell ⟨g, p + 2, none⟩ q).cell? ⟨V, 1, none⟩ = some y ∧ (((W.setCell ⟨g, p, none⟩ u).setCell ⟨g, p + 1, none⟩ v).setCell ⟨g, p + 2, none⟩ q).cell? ⟨V, 2, none⟩ = some z := by
  refine ⟨?_, ?_, ?_, ?_, ?_⟩
  · rw [cell_set _ _ _ _ hB, cell_set _ _ _ _ hB, cell_set _ _ _ _ hB]; exact h0
  · rw [cell_set _ _ _ _ hB, cell_set _ _ _ _ hB, cell_set _ _ _ _ hB]; exact h1
  · rw [cell_set _ _ _ _ hV, cell_set _ _ _ _ hV, cell_set _ _ _ _ hV]; exact h2
  · rw [cell_set _ _ _ _ hV, cell_set _ _ _ _ hV, cell_set _ _ _ _ hV]; exact h3
  · rw [cell_set _ _ _ _ hV, cell_set _ _ _ _ hV, cell_set _ _ _ _ hV]; exact h4
theorem set3C_heap {W : World} {g p : Nat} {C : Array Value} {t : TypeId} (f : Fd) (h : W.heap[g]? = some (.cells C t (0, 0))) : (((W.setCell ⟨g, p * 3, none⟩ (.string f.n)).setCell ⟨g, p * 3 + 1, none⟩ (.string f.v)).setCell ⟨g, p * 3 + 2, none⟩ (.bool f.q)).heap[g]? = some (.cells (set3C C p f) t (0, 0)) :=
  setC_heap _ _ (setC_heap _ _ (setC_heap _ _ h))

end Go.Proofs.Ytdnajdobmlgmiaa

namespace Go.Proofs.Ytdnajdobmlgmiaa
open Go.RowKit
set_option linter.unusedVariables false

theorem keep5b {w1 w2 : World} {B V : Nat} {a b x y z : Value} (hb : Below w1.heap.size w1 w2) (h0 : w1.cell? ⟨B, 0, none⟩ = some a) (h1 : w1.cell? ⟨B, 2, none⟩ = some b) (h2 : w1.cell? ⟨V, 0, none⟩ = some x) (h3 : w1.cell? ⟨V, 1, none⟩ = some y) (h4 : w1.cell? ⟨V, 2, none⟩ = some z) :
    w2.cell? ⟨B, 0, none⟩ = some a ∧ w2.cell? ⟨B, 2, none⟩ = some b ∧ w2.cell? ⟨V, 0, none⟩ = some x ∧ w2.cell? ⟨V, 1, none⟩ = some y ∧ w2.cell? ⟨V, 2, none⟩ = some z :=
  ⟨(hb.cell (p := ⟨B, 0, none⟩) (World.block_lt_of_cell? w1 _ h0)).trans h0, (hb.cell (p := ⟨B, 2, none⟩) (World.block_lt_of_cell? w1 _ h1)).trans h1, (hb.cell (p := ⟨V, 0, none⟩) (World.block_lt_of_cell? w1 _ h2)).trans h2, (hb.cell (p := ⟨V, 1, none⟩) (World.block_lt_of_cell? w1 _ h3)).trans h3, (hb.cell (p := ⟨V, 2, none⟩) (World.block_lt_of_cell? w1 _ h4)).trans h4⟩
theorem keep5c {W : World} {B V g : Nat} {a b x y z : Value} (p : Nat) (u v q : Value) (hB : B ≠ g) (hV : V ≠ g) (h0 : W.cell? ⟨B, 0, none⟩ = some a) (h1 : W.cell? ⟨B, 2, none⟩ = some b) (h2 : W.cell? ⟨V, 0, none⟩ = some x) (h3 : W.cell? ⟨V, 1, none⟩ = some y) (h4 : W.cell? ⟨V, 2, none⟩ = some z) :
    (((W.setCell ⟨g, p, none⟩ u).setCell ⟨g, p + 1, none⟩ v).setCell ⟨g, p + 2, none⟩ q).cell? ⟨B, 0, none⟩ = some a ∧ (((W.setCell ⟨g, p, none⟩ u).setCell ⟨g, p + 1, none⟩ v).setCell ⟨g, p + 2, none⟩ q).cell? ⟨B, 2, none⟩ = some b ∧ (((W.setCell ⟨g, p, none⟩ u).setCell ⟨g, p + 1, none⟩ v).setCell ⟨g, p + 2, none⟩ q).cell? ⟨V, 0, none⟩ = some x ∧ (((W.setCell ⟨g, p, none⟩ u).setCell ⟨g, p + 1, none⟩ v).setCell ⟨g, p + 2, none⟩ q).cell? ⟨V, 1, none⟩ = some y ∧ (((W.setCell ⟨g, p, none⟩ u).setCell ⟨g, p + 1, none⟩ v).setCell ⟨g, p + 2, none⟩ q).cell? ⟨V, 2, none⟩ = some z := by
  refine ⟨?_, ?_, ?_, ?_, ?_⟩
  · rw [cell_set _ _ _ _ hB, cell_set _ _ _ _ hB, cell_set _ _ _ _ hB]; exact h0
  · rw [cell_set _ _ _ _ hB, cell_set _ _ _ _ hB, cell_set _ _ _ _ hB]; exact h1
  · rw [cell_set _ _ _ _ hV, cell_set _ _ _ _ hV, cell_set _ _ _ _ hV]; exact h2
  · rw [cell_set _ _ _ _ hV, cell_set _ _ _ _ hV, cell_set _ _ _ _ hV]; exact h3
  · rw [cell_set _ _ _ _ hV, cell_set _ _ _ _ hV, cell_set _ _ _ _ hV]; exact h4

theorem keepFR {W : World} {B R : Nat} {x y : Value} (a b c : Value) (h : B ≠ R) (h0 : W.cell? ⟨B, 0, none⟩ = some x) (h1 : W.cell? ⟨B, 2, none⟩ = some y) : (((W.setCell ⟨R, 0, none⟩ a).setCell ⟨R, 1, none⟩ b).setCell ⟨R, 2, none⟩ c).cell? ⟨B, 0, none⟩ = some x ∧ (((W.setCell ⟨R, 0, none⟩ a).setCell ⟨R, 1, none⟩ b).setCell ⟨R, 2, none⟩ c).cell? ⟨B, 2, none⟩ = some y := by
  constructor
  · rw [cell_set _ _ _ _ h, cell_set _ _ _ _ h, cell_set _ _ _ _ h]; exact h0
  · rw [cell_set _ _ _ _ h, cell_set _ _ _ _ h, cell_set _ _ _ _ h]; exact h1
theorem atC_cells {W : World} {g p : Nat} {C : Array Value} {t : TypeId} {f : Fd} (h : W.heap[g]? = some (.cells C t (0, 0))) (ha : atC C p f) : W.cell? ⟨g, p * 3, none⟩ = some (.string f.n) ∧ W.cell? ⟨g, p * 3 + 1, none⟩ = some (.string f.v) ∧ W.cell? ⟨g, p * 3 + 2, none⟩ = some (.bool f.q) :=
  ⟨(cell_of_row _ _ _ _ _ _ h).trans ha.1, (cell_of_row _ _ _ _ _ _ h).trans ha.2.1, (cell_of_row _ _ _ _ _ _ h).trans ha.2.2⟩

theorem sD {W : World} {B g p : Nat} {a b c : Value} {C : Array Value} {t t' : TypeId} {f : Fd} (hH : W.heap[B]? = some (.cells #[a, b, c] t (0, 0))) (hC : W.heap[g]? = some (.cells C t' (0, 0))) (ha : atC C p f) : W.cell? ⟨B, 0, none⟩ = some a ∧ W.cell? ⟨B, 2, none⟩ = some c ∧ W.cell? ⟨g, p * 3, none⟩ = some (.string f.n) ∧ W.cell? ⟨g, p * 3 + 1, none⟩ = some (.string f.v) ∧ W.cell? ⟨g, p * 3 + 2, none⟩ = some (.bool f.q) :=
  ⟨(row3 hH).1, (row3 hH).2.2.1, atC_cells hC ha⟩
end Go.Proofs.Ytdnajdobmlgmiaa

namespace Go.Proofs.Ytdnajdobmlgmiaa
open Go.RowKit
set_option linter.unusedVariables false

theorem fs_one (w : World) (f : Fd) : Fs (w.alloc (.cells #[.string f.n, .string f.v, .bool f.q] 98)) (some ⟨w.heap.size, 0, none⟩) 1 1 [f] :=
  own_Fs (base := w.heap.size) (own_one3 w w.heap.size 98 _ _ _ (Nat.le_refl _))
theorem grown_below {w w1 w2 : World} {base : Nat} {e : TypeId} {v : Value} {k : Nat} {xs : List Value} (h : Below base w w1) (hb : base ≤ w1.heap.size) (ho : w1.ownsRow base e 3 v k xs) (hg : w1.grownBy w2 v.ownBlock) : Below base w w2 :=
  h.grown hg hb (fun q hq => (ho.lt q hq).1)

end Go.Proofs.Ytdnajdobmlgmiaa
