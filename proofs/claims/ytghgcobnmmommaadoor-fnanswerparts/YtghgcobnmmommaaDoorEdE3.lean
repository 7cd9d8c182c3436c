import Derived.Test.YtghgcobnmmommaaDoorCB2
namespace Go.Proofs.YtghgcobnmmommaaDoor
open Go.RowKit
set_option linter.unusedVariables false

theorem edC_one (e : Ed) {o i s q : Value} (ho : o.oneCell' = true) (hi : i.oneCell' = true) (hs : s.oneCell' = true) (hq : q.oneCell' = true) : (edC e o i s q).all (·.oneCell') = true := by
  refine all_oneCell_toArray (cs := [.bool e.ans, o, .int .i64 e.outM, i, .int .i64 e.innM, .string e.came, s, .int .i64 e.fl.s, .int .i64 e.fl.r, q, .bool e.bad]) ?_
  intro v hv
  simp only [List.mem_cons, List.not_mem_nil, or_false] at hv
  rcases hv with rfl | rfl | rfl | rfl | rfl | rfl | rfl | rfl | rfl | rfl | rfl <;> first | rfl | assumption
end Go.Proofs.YtghgcobnmmommaaDoor
