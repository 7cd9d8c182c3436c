import Derived.Test.YtafhpcgdlmkbeaxTAdd
namespace Go.Proofs.Ytafhpcgdlmkbeax
open Go.RowKit
set_option linter.unusedVariables false

/-- What TableAdd and TableLimit answer. -/
def addV (fs : List Fd) (max : Int) (f : Fd) : List Fd × Int := if tOk fs max && fOk f then (fitL max (⟨f.n, f.v, false⟩ :: fs), max) else ([], 0)
def limV (fs : List Fd) (max most : Int) : List Fd × Int := if tOk fs max && (decide (0 ≤ most) && decide (most ≤ 64)) then (fitL most fs, most) else ([], 0)
theorem tOk_max {fs : List Fd} {max : Int} (h : tOk fs max = true) : 0 ≤ max ∧ max ≤ 64 := by
  unfold tOk at h
  simp at h
  exact ⟨h.2.1.1, h.2.1.2⟩
/-- A table that is answered: new memory. -/
def TabAns (w : World) (r : List Fd × Int) (e : Ending) (w' : World) : Prop := ∃ v, e = .returned (.agg #[v, .int .i64 r.2]) ∧ w'.ownsRow w.heap.size 30 3 v r.1.length (cellsF r.1) ∧ Below w.heap.size w w'

end Go.Proofs.Ytafhpcgdlmkbeax
