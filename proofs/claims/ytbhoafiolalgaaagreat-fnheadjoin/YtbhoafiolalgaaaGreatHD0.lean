import Derived.Test.YtbhoafiolalgaaaGreatTDraw2
import Derived.Test.YtbhoafiolalgaaaGreatHW1
namespace Go.Proofs.YtbhoafiolalgaaaGreat
open Go.RowKit
set_option linter.unusedVariables false

theorem St2.bel {w w1 w2 : World} {b N B : Nat} (hb : Below B w w1) (h : St2 w1 w2 b N) (hB : B ≤ b) (hs : B ≤ w1.heap.size) : Below B w w2 :=
  hb.grown h.kept hs (fun q hq => by injection hq with hq; omega)
theorem open_st2 (a : Option Addr) (len cap : Nat) (zs : List Int) (w : World) (hr : Row w a len cap zs) :
    Calls Tryz.prog 12 #[.slice a len cap] w fun e w' => e = .returned (.pointer (some ⟨w.heap.size, 0, none⟩)) ∧ St2 w' w' w.heap.size 0 ∧ Below w.heap.size w w' ∧ w'.heap.size = w.heap.size + 1 := by
  refine (l6Open_any a len cap zs w hr).mono ?_
  rintro e w' ⟨rfl, hd, hb, hs⟩
  exact ⟨rfl, St2.start hd (by omega), hb, hs⟩
theorem setRow_other {w : World} {g B : Nat} {o : Obj} (cs : Array Value) (h : w.heap[B]? = some o) (hne : B ≠ g) : (w.setRow g cs).heap[B]? = some o :=
  ((grown_setRowT w g cs).block B (Array.getElem?_eq_some_iff.1 h).1 (fun e => hne (by injection e))).trans h
theorem own_setRowT {w : World} {base g n : Nat} {e t : TypeId} {C : Array Value} {fr : Nat × Nat} {v : Value} {xs : List Value} (cs : Array Value) (h : w.ownsRow base e 3 v n xs) (hg : w.heap[g]? = some (.cells C t fr)) (hte : t ≠ e) : (w.setRow g cs).ownsRow base e 3 v n xs :=
  h.kept (grown_setRowT w g cs) (.inr (fun e' => not_rowT hg hte h e'.symm))
theorem bel_setRow {w0 w : World} {B g : Nat} (cs : Array Value) (h : Below B w0 w) (hB : B ≤ w.heap.size) (hg : B ≤ g) : Below B w0 (w.setRow g cs) :=
  h.grown (grown_setRowT w g cs) hB (fun q hq => by injection hq with hq; omega)
theorem blkB {w w' : World} {B : Nat} {o : Obj} (hb : Below w.heap.size w w') (h : w.heap[B]? = some o) : w'.heap[B]? = some o := (hb.block _ (Array.getElem?_eq_some_iff.1 h).1).trans h
end Go.Proofs.YtbhoafiolalgaaaGreat
