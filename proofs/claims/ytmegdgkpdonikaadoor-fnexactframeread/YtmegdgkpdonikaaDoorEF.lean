import Derived.Test.YtmegdgkpdonikaaDoorFL0
import Derived.ChangeArms
import Derived.DataReads
import Derived.Deep.Slices
namespace Go.Proofs.YtmegdgkpdonikaaDoor
open Go.RowKit
set_option linter.unusedVariables false

set_option maxRecDepth 100000 in
set_option maxHeartbeats 400000 in
theorem eqFrame_same (f : Fr) (w : World) :
    Calls Tryd.prog 17 #[.agg #[.int .i64 f.k, .bool f.l, .int .i64 f.s, .string f.b], .agg #[.int .i64 f.k, .bool f.l, .int .i64 f.s, .string f.b]] w fun e w' => e = .returned (.bool true) ∧ Below w.heap.size w w' := by
  go_enter Tryd.func17, Tryd.ntmps17
  go_wp2
  go_ret
  exact ⟨rfl, by go_grown⟩
end Go.Proofs.YtmegdgkpdonikaaDoor
