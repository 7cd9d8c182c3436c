import Derived.Test.YtghgcobnmmommaaDoorCD
import Derived.Test.YtghgcobnmmommaaDoorBR
import Derived.Deep.DeepCutAuto
namespace Go.Proofs.YtghgcobnmmommaaDoor
open Go.RowKit
set_option linter.unusedVariables false

theorem St2.belW {w w1 w2 : World} {b N B : Nat} (hb : Below B w w1) (h : St2 w1 w2 b N) (hB : B ≤ b) (hs : B ≤ w1.heap.size) : Below B w w2 :=
  hb.grown h.kept hs (fun q hq => by injection hq with hq; omega)
theorem open_st2W (a : Option Addr) (len cap : Nat) (zs : List Int) (w : World) (hr : Row w a len cap zs) :
    Calls Tryd.prog 9 #[.slice a len cap] w fun e w' => e = .returned (.pointer (some ⟨w.heap.size, 0, none⟩)) ∧ St2 w' w' w.heap.size 0 ∧ Below w.heap.size w w' ∧ w'.heap.size = w.heap.size + 1 := by
  refine (l6Open_any a len cap zs w hr).mono ?_
  rintro e w' ⟨rfl, hd, hb, hs⟩
  exact ⟨rfl, St2.start hd (by omega), hb, hs⟩
theorem blkW {W : World} {B : Nat} {o : Obj} (h : W.heap[B]? = some o) (o' : Obj) : (W.alloc o').heap[B]? = some o := blkF ((Below.refl _ _).alloc (Nat.le_refl _) _) h
/-- What a drawn flow is like. -/
def FwD (f : Fw) : Prop := -1 ≤ f.s ∧ f.s ≤ 32 ∧ -10 ≤ f.r ∧ f.r ≤ 40

end Go.Proofs.YtghgcobnmmommaaDoor
