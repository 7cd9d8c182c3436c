import Derived.Test.YtmegdgkpdonikaaEF
import Derived.Test.YtmegdgkpdonikaaFI2
namespace Go.Proofs.Ytmegdgkpdonikaa
open Go.RowKit
set_option linter.unusedVariables false

set_option maxRecDepth 100000 in
set_option maxHeartbeats 2000000 in
theorem fnExactFrameWrite_walk (f : Fr) (w : World) (hb : f.b.size ≤ maxLen) :
    Calls Try.prog 6 #[.agg #[.int .i64 f.k, .bool f.l, .int .i64 f.s, .string f.b]] w fun e w' => e = .returned (.bool true) ∧ Below w.heap.size w w' := by
  have hsz := fun w => szFrame_any f 1048576 w hb (by decide) (by decide)
  have hto := fun w => toFrame_any f w
  have hsp := fun w => specFrameWrite f w hb
  have him := fun w => implFrameWrite f w hb
  obtain ⟨R, hR⟩ : ∃ R, frWr f = R := ⟨_, rfl⟩
  rw [hR] at hsp him
  unfold Fr.val at hsp him
  clear hR hb
  have hB : Below w.heap.size w (w.alloc (.cells #[.int .i64 f.k, .bool f.l, .int .i64 f.s, .string f.b] 30)) := ((Below.refl _ _).alloc (Nat.le_refl _) _)
  have C_b : (w.alloc (.cells #[.int .i64 f.k, .bool f.l, .int .i64 f.s, .string f.b] 30)).heap[w.heap.size]? = some (.cells #[.int .i64 f.k, .bool f.l, .int .i64 f.s, .string f.b] 30 (0, 0)) := heap_alloc_last w _
  go_enter Try.func6, Try.ntmps6
  go_wp2_with fail
  refine (hsz _).mono ?_
  clear hsz
  rintro e v0 ⟨r, rfl, hr, hb⟩
  replace C_b := blkF hb C_b
  replace hB := btF hB hb
  clear hb
  rcases hr with rfl | ⟨r0, r1, r2⟩
  · go_wp2
    go_ret
    exact ⟨rfl, hB⟩
  have hd : decide (r < 0) = false := by rw [decide_eq_false_iff_not]; omega
  obtain ⟨tb0, tb1, tb2, tb3⟩ := row4c C_b
  go_wp2_with fail
  refine (hto _).mono ?_
  rintro e v1 ⟨rfl, hb⟩
  clear tb0 tb1 tb2 tb3
  replace C_b := blkF hb C_b
  replace hB := btF hB hb
  clear hb
  go_wp2_with fail
  refine (hsp _).mono ?_
  rintro e v2 ⟨rfl, hb⟩
  replace C_b := blkF hb C_b
  replace hB := btF hB hb
  clear hb
  obtain ⟨tb0, tb1, tb2, tb3⟩ := row4c C_b
  go_wp2_with fail
  refine (hto _).mono ?_
  rintro e v3 ⟨rfl, hb⟩
  clear tb0 tb1 tb2 tb3
  replace C_b := blkF hb C_b
  replace hB := btF hB hb
  clear hb
  go_wp2_with fail
  refine (him _).mono ?_
  rintro e v4 ⟨rfl, hb⟩
  replace C_b := blkF hb C_b
  replace hB := btF hB hb
  clear hb
  go_wp2
  go_ret
  exact ⟨rfl, hB⟩
end Go.Proofs.Ytmegdgkpdonikaa
