import Derived.Test.YtafhpcgdlmkbeaxTR1
namespace Go.Proofs.Ytafhpcgdlmkbeax
open Go.RowKit
set_option linter.unusedVariables false

theorem keep5b {w1 w2 : World} {B V : Nat} {a b x y z : Value} (hb : Below w1.heap.size w1 w2) (h0 : w1.cell? ⟨B, 0, none⟩ = some a) (h1 : w1.cell? ⟨B, 2, none⟩ = some b) (h2 : w1.cell? ⟨V, 0, none⟩ = some x) (h3 : w1.cell? ⟨V, 1, none⟩ = some y) (h4 : w1.cell? ⟨V, 2, none⟩ = some z) :
    w2.cell? ⟨B, 0, none⟩ = some a ∧ w2.cell? ⟨B, 2, none⟩ = some b ∧ w2.cell? ⟨V, 0, none⟩ = some x ∧ w2.cell? ⟨V, 1, none⟩ = some y ∧ w2.cell? ⟨V, 2, none⟩ = some z :=
  ⟨(hb.cell (p := ⟨B, 0, none⟩) (World.block_lt_of_cell? w1 _ h0)).trans h0, (hb.cell (p := ⟨B, 2, none⟩) (World.block_lt_of_cell? w1 _ h1)).trans h1, (hb.cell (p := ⟨V, 0, none⟩) (World.block_lt_of_cell? w1 _ h2)).trans h2, (hb.cell (p := ⟨V, 1, none⟩) (World.block_lt_of_cell? w1 _ h3)).trans h3, (hb.cell (p := ⟨V, 2, none⟩) (World.block_lt_of_cell? w1 _ h4)).trans h4⟩
theorem keep5c {W : World} {B V g : Nat} {a b x y z : Value} (p : Nat) (u v q : Value) (hB : B ≠ g) (hV : V ≠ g) (h0 : W.cell? ⟨B, 0, none⟩ = some a) (h1 : W.cell? ⟨B, 2, none⟩ = some b) (h2 : W.cell? ⟨V, 0, none⟩ = some x) (h3 : W.cell? ⟨V, 1, none⟩ = some y) (h4 : W.cell? ⟨V, 2, none⟩ = some z) :
    (((W.setCell ⟨g, p, none⟩ u).setCell ⟨g, p + 1, none⟩ v).setCell ⟨g, p + 2, none⟩ q).cell? ⟨B, 0, none⟩ = some a ∧ (((W.setCell ⟨g, p, none⟩ u).setCell ⟨g, p + 1, none⟩ v).setCell ⟨g, p + 2, none⟩ q).cell? ⟨B, 2, none⟩ = some b ∧ (((W.setCell ⟨g, p, none⟩ u).setCell ⟨g, p + 1, none⟩ v).setCell ⟨g, p + 2, none⟩ q).cell? ⟨V, 0, none⟩ = some x ∧ (((W.setCell ⟨g, p, none⟩ u).setCell ⟨g, p + 1, none⟩ v).setCell ⟨g, p + 2, none⟩ q).cell? ⟨V, 1, none⟩ = some y ∧ (((W.setCell ⟨g, p, none⟩ u).setCell ⟨g, p + 1, none⟩ v).setCell ⟨g, p + 2, none⟩ q).cell? ⟨V, 2, none⟩ = some z := by
  refine ⟨?_, ?_, ?_, ?_, ?_⟩
  · rw [cell_set _ _ _ _ hB, cell_set _ _ _ _ hB, cell_set _ _ _ _ hB]; exact h0
  · rw [cell_set _ _ _ _ hB, cell_set _ _ _ _ hB, cell_set _ _ _ _ hB]; exact h1
  · rw [cell_set _ _ _ _ hV, cell_set _ _ _ _ hV, cell_set _ _ _ _ hV]; exact h2
  · rw [cell_set _ _ _ _ hV, cell_set _ _ _ _ hV, cell_set _ _ _ _ hV]; exact h3
  · rw [cell_set _ _ _ _ hV, cell_set _ _ _ _ hV, cell_set _ _ _ _ hV]; exact h4

theorem keepF {W : World} {B R : Nat} {x y : Value} (a b c : Value) (h : B ≠ R) (h0 : W.cell? ⟨B, 0, none⟩ = some x) (h1 : W.cell? ⟨B, 2, none⟩ = some y) : (((W.setCell ⟨R, 0, none⟩ a).setCell ⟨R, 1, none⟩ b).setCell ⟨R, 2, none⟩ c).cell? ⟨B, 0, none⟩ = some x ∧ (((W.setCell ⟨R, 0, none⟩ a).setCell ⟨R, 1, none⟩ b).setCell ⟨R, 2, none⟩ c).cell? ⟨B, 2, none⟩ = some y := by
  constructor
  · rw [cell_set _ _ _ _ h, cell_set _ _ _ _ h, cell_set _ _ _ _ h]; exact h0
  · rw [cell_set _ _ _ _ h, cell_set _ _ _ _ h, cell_set _ _ _ _ h]; exact h1
theorem atC_cells {W : World} {g p : Nat} {C : Array Value} {t : TypeId} {f : Fd} (h : W.heap[g]? = some (.cells C t (0, 0))) (ha : atC C p f) : W.cell? ⟨g, p * 3, none⟩ = some (.string f.n) ∧ W.cell? ⟨g, p * 3 + 1, none⟩ = some (.string f.v) ∧ W.cell? ⟨g, p * 3 + 2, none⟩ = some (.bool f.q) :=
  ⟨(cell_of_row _ _ _ _ _ _ h).trans ha.1, (cell_of_row _ _ _ _ _ _ h).trans ha.2.1, (cell_of_row _ _ _ _ _ _ h).trans ha.2.2⟩

theorem sD {W : World} {B g p : Nat} {a b c : Value} {C : Array Value} {t t' : TypeId} {f : Fd} (hH : W.heap[B]? = some (.cells #[a, b, c] t (0, 0))) (hC : W.heap[g]? = some (.cells C t' (0, 0))) (ha : atC C p f) : W.cell? ⟨B, 0, none⟩ = some a ∧ W.cell? ⟨B, 2, none⟩ = some c ∧ W.cell? ⟨g, p * 3, none⟩ = some (.string f.n) ∧ W.cell? ⟨g, p * 3 + 1, none⟩ = some (.string f.v) ∧ W.cell? ⟨g, p * 3 + 2, none⟩ = some (.bool f.q) :=
  ⟨(row3 hH).1, (row3 hH).2.2.1, atC_cells hC ha⟩
end Go.Proofs.Ytafhpcgdlmkbeax
