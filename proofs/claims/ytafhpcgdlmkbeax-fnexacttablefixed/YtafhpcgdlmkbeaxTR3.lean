import Derived.Test.YtafhpcgdlmkbeaxTR2
namespace Go.Proofs.Ytafhpcgdlmkbeax
open Go.RowKit
set_option linter.unusedVariables false

theorem fs_one (w : World) (f : Fd) : Fs (w.alloc (.cells #[.string f.n, .string f.v, .bool f.q] 30)) (some ⟨w.heap.size, 0, none⟩) 1 1 [f] :=
  own_Fs (base := w.heap.size) (own_one3 w w.heap.size 30 _ _ _ (Nat.le_refl _))
theorem grown_below {w w1 w2 : World} {base : Nat} {e : TypeId} {v : Value} {k : Nat} {xs : List Value} (h : Below base w w1) (hb : base ≤ w1.heap.size) (ho : w1.ownsRow base e 3 v k xs) (hg : w1.grownBy w2 v.ownBlock) : Below base w w2 :=
  h.grown hg hb (fun q hq => (ho.lt q hq).1)

end Go.Proofs.Ytafhpcgdlmkbeax
