import Derived.Test.YtdnajdobmlgmiaaBK
import Derived.Test.YtdnajdobmlgmiaaBJ
import Derived.Test.YtdnajdobmlgmiaaBB
namespace Go.Proofs.Ytdnajdobmlgmiaa
open Go.RowKit
set_option linter.unusedVariables false

/-- Fields as tables keep them. -/
def fsKept (fs : List Fd) : Prop := ∀ f ∈ fs, f.q = false ∧ f.n.size ≤ 16 ∧ f.v.size ≤ 16
theorem fsKept.bd {fs : List Fd} (h : fsKept fs) : fsBd fs := fun f hf => ⟨by have := (h f hf).2.1; omega, by have := (h f hf).2.2; omega⟩

theorem keptHeap {w wr w2 : World} {o : Obj} {r B : Nat} (h : ∀ r, r < wr.heap.size → r ≠ B → w2.heap[r]? = wr.heap[r]?) (hr : wr.heap[r]? = some o) (hne : r ≠ B) : w2.heap[r]? = some o := (h r (Array.getElem?_eq_some_iff.1 hr).1 hne).trans hr

end Go.Proofs.Ytdnajdobmlgmiaa

namespace Go.Proofs.Ytdnajdobmlgmiaa
open Go.RowKit
set_option linter.unusedVariables false

theorem tOk_kept {fs : List Fd} {max : Int} (h : tOk fs max = true) : fsKept fs := fun f hf => ⟨((tOk_parts h).1 f hf).2, fOk_size ((tOk_parts h).1 f hf).1⟩
end Go.Proofs.Ytdnajdobmlgmiaa
