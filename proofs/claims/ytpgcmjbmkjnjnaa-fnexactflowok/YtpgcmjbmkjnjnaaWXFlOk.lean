import Derived.Test.YtpgcmjbmkjnjnaaFlE
import Derived.Test.YtpgcmjbmkjnjnaaFlI
namespace Go.Proofs.Ytpgcmjbmkjnjnaa
open Go.RowKit
set_option linter.unusedVariables false

set_option maxRecDepth 100000 in
set_option maxHeartbeats 2000000 in
theorem fnExactFlowOk_walk (f : Fw) (w : World) :
    Calls Try.prog 9 #[.agg #[.int .i64 f.s, .int .i64 f.r]] w fun e w' => e = .returned (.bool true) ∧ Below w.heap.size w w' := by
  have hto := fun w => toFlow_any f w
  have hsp := fun w => specFlowOk f w
  have him := fun w => implFlowOk f w
  obtain ⟨R, hR⟩ : ∃ R, flOk f = R := ⟨_, rfl⟩
  rw [hR] at hsp him
  unfold Fw.val at hsp him
  clear hR
  have hB : Below w.heap.size w (w.alloc (.cells #[.int .i64 f.s, .int .i64 f.r] 34)) := ((Below.refl _ _).alloc (Nat.le_refl _) _)
  have C_b : (w.alloc (.cells #[.int .i64 f.s, .int .i64 f.r] 34)).heap[w.heap.size]? = some (.cells #[.int .i64 f.s, .int .i64 f.r] 34 (0, 0)) := heap_alloc_last w _
  go_enter Try.func9, Try.ntmps9
  obtain ⟨tb0, tb1, tb2, tb3⟩ := row2w C_b
  go_wp2_with fail
  refine (hto _).mono ?_
  rintro e v1 ⟨rfl, hb⟩
  clear tb0 tb1 tb2 tb3
  replace C_b := blkF hb C_b
  replace hB := btF hB hb
  clear hb
  go_wp2_with fail
  refine (hsp _).mono ?_
  rintro e v2 ⟨rfl, hb⟩
  replace C_b := blkF hb C_b
  replace hB := btF hB hb
  clear hb
  obtain ⟨tb0, tb1, tb2, tb3⟩ := row2w C_b
  go_wp2_with fail
  refine (hto _).mono ?_
  rintro e v3 ⟨rfl, hb⟩
  clear tb0 tb1 tb2 tb3
  replace C_b := blkF hb C_b
  replace hB := btF hB hb
  clear hb
  go_wp2_with fail
  refine (him _).mono ?_
  rintro e v4 ⟨rfl, hb⟩
  replace C_b := blkF hb C_b
  replace hB := btF hB hb
  clear hb
  go_wp2
  go_ret
  exact ⟨rfl, hB⟩
end Go.Proofs.Ytpgcmjbmkjnjnaa
