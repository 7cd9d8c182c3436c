import Derived.Test.YtpgcmjbmkjnjnaaFlE
import Derived.Test.YtpgcmjbmkjnjnaaFlI
namespace Go.Proofs.Ytpgcmjbmkjnjnaa
open Go.RowKit
set_option linter.unusedVariables false

set_option maxRecDepth 100000 in
set_option maxHeartbeats 2000000 in
theorem fnExactFlowGot_walk (f : Fw) (n : Int) (w : World) :
    Calls Try.prog 12 #[.agg #[.int .i64 f.s, .int .i64 f.r], .int .i64 n] w fun e w' => e = .returned (.bool true) ∧ Below w.heap.size w w' := by
  have hto := fun w => toFlow_any f w
  have hsp := fun w => specFlowGot f n w
  have him := fun w => implFlowGot f n w
  obtain ⟨⟨g, u⟩, hR⟩ : ∃ R, flGot f n = R := ⟨_, rfl⟩
  rw [hR] at hsp him
  unfold Fw.val at hsp him
  dsimp only at hsp him
  have heq := fun w => eqFlow_same g w
  clear hR
  have hB : Below w.heap.size w (w.alloc (.cells #[.int .i64 f.s, .int .i64 f.r] 34)) := ((Below.refl _ _).alloc (Nat.le_refl _) _)
  have C_b : (w.alloc (.cells #[.int .i64 f.s, .int .i64 f.r] 34)).heap[w.heap.size]? = some (.cells #[.int .i64 f.s, .int .i64 f.r] 34 (0, 0)) := heap_alloc_last w _
  go_enter Try.func12, Try.ntmps12
  obtain ⟨tb0, tb1, tb2, tb3⟩ := row2w C_b
  go_wp2_with fail
  refine (hto _).mono ?_
  rintro e v1 ⟨rfl, hb⟩
  clear tb0 tb1 tb2 tb3
  replace C_b := blkF hb C_b
  replace hB := btF hB hb
  clear hb
  go_wp2_with fail
  refine (hsp _).mono ?_
  rintro e v2 ⟨rfl, hb⟩
  replace C_b := blkF hb C_b
  replace hB := btF hB hb
  clear hb
  have hbA : Below v2.heap.size v2 (v2.alloc (.cells #[.int .i64 g.s, .int .i64 g.r] 24)) := ((Below.refl _ _).alloc (Nat.le_refl _) _)
  replace C_b := blkF hbA C_b
  replace hB := btF hB hbA
  clear hbA
  have C_u : (v2.alloc (.cells #[.int .i64 g.s, .int .i64 g.r] 24)).heap[v2.heap.size]? = some (.cells #[.int .i64 g.s, .int .i64 g.r] 24 (0, 0)) := heap_alloc_last v2 _
  obtain ⟨tb0, tb1, tb2, tb3⟩ := row2w C_b
  go_wp2_with fail
  refine (hto _).mono ?_
  rintro e v3 ⟨rfl, hb⟩
  clear tb0 tb1 tb2 tb3
  replace C_b := blkF hb C_b
  replace C_u := blkF hb C_u
  replace hB := btF hB hb
  clear hb
  go_wp2_with fail
  refine (him _).mono ?_
  rintro e v4 ⟨rfl, hb⟩
  replace C_b := blkF hb C_b
  replace C_u := blkF hb C_u
  replace hB := btF hB hb
  clear hb
  have hbA : Below v4.heap.size v4 (v4.alloc (.cells #[.int .i64 g.s, .int .i64 g.r] 24)) := ((Below.refl _ _).alloc (Nat.le_refl _) _)
  replace C_b := blkF hbA C_b
  replace C_u := blkF hbA C_u
  replace hB := btF hB hbA
  clear hbA
  have C_v : (v4.alloc (.cells #[.int .i64 g.s, .int .i64 g.r] 24)).heap[v4.heap.size]? = some (.cells #[.int .i64 g.s, .int .i64 g.r] 24 (0, 0)) := heap_alloc_last v4 _
  obtain ⟨tu0, tu1, tu2, tu3⟩ := row2w C_u
  obtain ⟨tv0, tv1, tv2, tv3⟩ := row2w C_v
  go_wp2_with fail
  refine (heq _).mono ?_
  rintro e v5 ⟨rfl, hb⟩
  clear tu0 tu1 tu2 tu3 tv0 tv1 tv2 tv3
  replace C_b := blkF hb C_b
  replace C_u := blkF hb C_u
  replace C_v := blkF hb C_v
  replace hB := btF hB hb
  clear hb
  go_wp2
  go_ret
  exact ⟨rfl, hB⟩
end Go.Proofs.Ytpgcmjbmkjnjnaa
