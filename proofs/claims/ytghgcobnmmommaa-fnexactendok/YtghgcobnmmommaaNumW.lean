import Derived.Test.YtghgcobnmmommaaProg
import Derived.Test.YtghgcobnmmommaaBA
namespace Go.Proofs.Ytghgcobnmmommaa
open Go.RowKit
set_option linter.unusedVariables false
theorem info5 : (Try.prog.info? 5).map (fun i => (i.zero, i.size, i.bytes)) = some (some (.int .u8 0), 1, 1) := by kernel_rfl

set_option maxRecDepth 100000 in
set_option maxHeartbeats 1000000 in
theorem nwA3 (n head : Int) (w : World) (h0 : 0 ≤ n) (h1 : n < 7) (g0 : 0 ≤ head) (g1 : head < 32) :
    Calls Try.prog 155 #[.int .i64 n, .int .i64 3, .int .i64 head] w fun e w' => e = .returned (.string (strOfNums [head * 8 + n])) ∧ Below w.heap.size w w' := by
  have hcv := fun n w => convert_one (P := Try.prog) Try.underlying22 Try.underlying5 Try.underlying9 n w
  go_enter Try.func155, Try.ntmps155
  go_wp2
  go_ret
  exact ⟨rfl, by go_grown⟩

set_option maxRecDepth 100000 in
set_option maxHeartbeats 1000000 in
theorem nwB3 (n head : Int) (w : World) (h0 : 7 ≤ n) (h1 : n < 7 + 128) (g0 : 0 ≤ head) (g1 : head < 32) :
    Calls Try.prog 155 #[.int .i64 n, .int .i64 3, .int .i64 head] w fun e w' => e = .returned (.string (strOfNums [head * 8 + 7, n - 7])) ∧ Below w.heap.size w w' := by
  obtain ⟨i5, hi, hz0, hz1, hz2⟩ := info_parts info5
  go_enter Try.func155, Try.ntmps155
  go_wp2
  refine wp_loop_rounds 1 ?_
  rw [rounds_succ]
  go_wp2_with (at_builtin; refine wpList_append_own _ rfl _ _ 22 rfl w.heap.size 5 i5 (.int .u8 0) 1 1 Try.underlying22 hi hz0 hz1 hz2 rfl (by decide) _ _ _ rfl ((own_one w 5 (.int .u8 (head * 8 + 7))).alloc _) ⟨w.heap.size + 1, 0, none⟩ 1 1 [.int .u8 (n - 7)] rfl rfl ?c1 ?c2 ?c3 ?c4 ?c5 ?_)
  case c1 => exact cell_one _ _ _ (by simp)
  case c2 => exact one_cell _ _
  case c3 => decide
  case c4 => decide
  case c5 => go_size
  intro v' w1 hown hgrow _
  have hcv := convert_owned (P := Try.prog) (xs := [head * 8 + 7, n - 7]) Try.underlying22 Try.underlying5 Try.underlying9 hown
  clear hown
  go_wp2
  go_ret
  exact ⟨rfl, Below.grown (by go_grown) hgrow (by go_size) (by intro k hk; simp [Value.ownBlock] at hk; omega)⟩

set_option maxRecDepth 100000 in
set_option maxHeartbeats 1000000 in
theorem nwC3 (n head : Int) (w : World) (h0 : 7 + 128 ≤ n) (h1 : n ≤ 9999) (g0 : 0 ≤ head) (g1 : head < 32) :
    Calls Try.prog 155 #[.int .i64 n, .int .i64 3, .int .i64 head] w fun e w' => e = .returned (.string (strOfNums [head * 8 + 7, 128 + (n - 7) % 128, (n - 7) / 128])) ∧ Below w.heap.size w w' := by
  obtain ⟨i5, hi, hz0, hz1, hz2⟩ := info_parts info5
  go_enter Try.func155, Try.ntmps155
  go_wp2
  refine wp_loop_rounds 2 ?_
  rw [rounds_succ]
  go_wp2_with (at_builtin; refine wpList_append_own _ rfl _ _ 22 rfl w.heap.size 5 i5 (.int .u8 0) 1 1 Try.underlying22 hi hz0 hz1 hz2 rfl (by decide) _ _ _ rfl ((own_one w 5 (.int .u8 (head * 8 + 7))).alloc _) ⟨w.heap.size + 1, 0, none⟩ 1 1 [.int .u8 (128 + (n - 7) % 128)] rfl rfl ?c1 ?c2 ?c3 ?c4 ?c5 ?_)
  case c1 => exact cell_one _ _ _ (by simp)
  case c2 => exact one_cell _ _
  case c3 => decide
  case c4 => decide
  case c5 => go_size
  intro v' w1 hown hgrow _
  have hlt : w.heap.size ≤ w1.heap.size := by have := hgrow.size; simp at this; omega
  go_wp2
  rw [rounds_succ]
  go_wp2_with (at_builtin; refine wpList_append_own _ rfl _ _ 22 rfl w.heap.size 5 i5 (.int .u8 0) 1 1 Try.underlying22 hi hz0 hz1 hz2 rfl (by decide) _ _ _ rfl (hown.alloc _) ⟨w1.heap.size, 0, none⟩ 1 1 [.int .u8 ((n - 7) / 128)] rfl rfl ?d1 ?d2 ?d3 ?d4 ?d5 ?_)
  case d1 => exact cell_one _ _ _ (by simp)
  case d2 => exact one_cell _ _
  case d3 => decide
  case d4 => decide
  case d5 => go_size
  intro v2 w2 hown2 hgrow2 _
  have hcv := convert_owned (P := Try.prog) (xs := [head * 8 + 7, 128 + (n - 7) % 128, (n - 7) / 128]) Try.underlying22 Try.underlying5 Try.underlying9 hown2
  clear hown2
  go_wp2
  go_ret
  refine ⟨rfl, Below.grown (Below.alloc (Below.grown (by go_grown) hgrow (by go_size) (by intro k hk; simp [Value.ownBlock] at hk; omega)) hlt _) hgrow2 (by go_size) ?_⟩
  intro k hk
  exact (hown.lt k hk).1

/-- 3 bits. -/
theorem nw3 (n head : Int) (w : World) (h0 : 0 ≤ n) (h1 : n ≤ 9999) (g0 : 0 ≤ head) (g1 : head < 32) :
    Calls Try.prog 155 #[.int .i64 n, .int .i64 3, .int .i64 head] w fun e w' => e = .returned (.string (numS n 3 head)) ∧ Below w.heap.size w w' := by
  unfold numS numL
  rw [pw3]
  by_cases h : n < 7
  · rw [if_pos (by omega)]; exact nwA3 n head w h0 h g0 g1
  · rw [if_neg (by omega)]
    by_cases h' : n < 7 + 128
    · rw [if_pos (by omega)]; exact nwB3 n head w (by omega) h' g0 g1
    · rw [if_neg (by omega)]; exact nwC3 n head w (by omega) h1 g0 g1

set_option maxRecDepth 100000 in
set_option maxHeartbeats 1000000 in
theorem nwA4 (n head : Int) (w : World) (h0 : 0 ≤ n) (h1 : n < 15) (g0 : 0 ≤ head) (g1 : head < 16) :
    Calls Try.prog 155 #[.int .i64 n, .int .i64 4, .int .i64 head] w fun e w' => e = .returned (.string (strOfNums [head * 16 + n])) ∧ Below w.heap.size w w' := by
  have hcv := fun n w => convert_one (P := Try.prog) Try.underlying22 Try.underlying5 Try.underlying9 n w
  go_enter Try.func155, Try.ntmps155
  go_wp2
  go_ret
  exact ⟨rfl, by go_grown⟩

set_option maxRecDepth 100000 in
set_option maxHeartbeats 1000000 in
theorem nwB4 (n head : Int) (w : World) (h0 : 15 ≤ n) (h1 : n < 15 + 128) (g0 : 0 ≤ head) (g1 : head < 16) :
    Calls Try.prog 155 #[.int .i64 n, .int .i64 4, .int .i64 head] w fun e w' => e = .returned (.string (strOfNums [head * 16 + 15, n - 15])) ∧ Below w.heap.size w w' := by
  obtain ⟨i5, hi, hz0, hz1, hz2⟩ := info_parts info5
  go_enter Try.func155, Try.ntmps155
  go_wp2
  refine wp_loop_rounds 1 ?_
  rw [rounds_succ]
  go_wp2_with (at_builtin; refine wpList_append_own _ rfl _ _ 22 rfl w.heap.size 5 i5 (.int .u8 0) 1 1 Try.underlying22 hi hz0 hz1 hz2 rfl (by decide) _ _ _ rfl ((own_one w 5 (.int .u8 (head * 16 + 15))).alloc _) ⟨w.heap.size + 1, 0, none⟩ 1 1 [.int .u8 (n - 15)] rfl rfl ?c1 ?c2 ?c3 ?c4 ?c5 ?_)
  case c1 => exact cell_one _ _ _ (by simp)
  case c2 => exact one_cell _ _
  case c3 => decide
  case c4 => decide
  case c5 => go_size
  intro v' w1 hown hgrow _
  have hcv := convert_owned (P := Try.prog) (xs := [head * 16 + 15, n - 15]) Try.underlying22 Try.underlying5 Try.underlying9 hown
  clear hown
  go_wp2
  go_ret
  exact ⟨rfl, Below.grown (by go_grown) hgrow (by go_size) (by intro k hk; simp [Value.ownBlock] at hk; omega)⟩

set_option maxRecDepth 100000 in
set_option maxHeartbeats 1000000 in
theorem nwC4 (n head : Int) (w : World) (h0 : 15 + 128 ≤ n) (h1 : n ≤ 9999) (g0 : 0 ≤ head) (g1 : head < 16) :
    Calls Try.prog 155 #[.int .i64 n, .int .i64 4, .int .i64 head] w fun e w' => e = .returned (.string (strOfNums [head * 16 + 15, 128 + (n - 15) % 128, (n - 15) / 128])) ∧ Below w.heap.size w w' := by
  obtain ⟨i5, hi, hz0, hz1, hz2⟩ := info_parts info5
  go_enter Try.func155, Try.ntmps155
  go_wp2
  refine wp_loop_rounds 2 ?_
  rw [rounds_succ]
  go_wp2_with (at_builtin; refine wpList_append_own _ rfl _ _ 22 rfl w.heap.size 5 i5 (.int .u8 0) 1 1 Try.underlying22 hi hz0 hz1 hz2 rfl (by decide) _ _ _ rfl ((own_one w 5 (.int .u8 (head * 16 + 15))).alloc _) ⟨w.heap.size + 1, 0, none⟩ 1 1 [.int .u8 (128 + (n - 15) % 128)] rfl rfl ?c1 ?c2 ?c3 ?c4 ?c5 ?_)
  case c1 => exact cell_one _ _ _ (by simp)
  case c2 => exact one_cell _ _
  case c3 => decide
  case c4 => decide
  case c5 => go_size
  intro v' w1 hown hgrow _
  have hlt : w.heap.size ≤ w1.heap.size := by have := hgrow.size; simp at this; omega
  go_wp2
  rw [rounds_succ]
  go_wp2_with (at_builtin; refine wpList_append_own _ rfl _ _ 22 rfl w.heap.size 5 i5 (.int .u8 0) 1 1 Try.underlying22 hi hz0 hz1 hz2 rfl (by decide) _ _ _ rfl (hown.alloc _) ⟨w1.heap.size, 0, none⟩ 1 1 [.int .u8 ((n - 15) / 128)] rfl rfl ?d1 ?d2 ?d3 ?d4 ?d5 ?_)
  case d1 => exact cell_one _ _ _ (by simp)
  case d2 => exact one_cell _ _
  case d3 => decide
  case d4 => decide
  case d5 => go_size
  intro v2 w2 hown2 hgrow2 _
  have hcv := convert_owned (P := Try.prog) (xs := [head * 16 + 15, 128 + (n - 15) % 128, (n - 15) / 128]) Try.underlying22 Try.underlying5 Try.underlying9 hown2
  clear hown2
  go_wp2
  go_ret
  refine ⟨rfl, Below.grown (Below.alloc (Below.grown (by go_grown) hgrow (by go_size) (by intro k hk; simp [Value.ownBlock] at hk; omega)) hlt _) hgrow2 (by go_size) ?_⟩
  intro k hk
  exact (hown.lt k hk).1

/-- 4 bits. -/
theorem nw4 (n head : Int) (w : World) (h0 : 0 ≤ n) (h1 : n ≤ 9999) (g0 : 0 ≤ head) (g1 : head < 16) :
    Calls Try.prog 155 #[.int .i64 n, .int .i64 4, .int .i64 head] w fun e w' => e = .returned (.string (numS n 4 head)) ∧ Below w.heap.size w w' := by
  unfold numS numL
  rw [pw4]
  by_cases h : n < 15
  · rw [if_pos (by omega)]; exact nwA4 n head w h0 h g0 g1
  · rw [if_neg (by omega)]
    by_cases h' : n < 15 + 128
    · rw [if_pos (by omega)]; exact nwB4 n head w (by omega) h' g0 g1
    · rw [if_neg (by omega)]; exact nwC4 n head w (by omega) h1 g0 g1

set_option maxRecDepth 100000 in
set_option maxHeartbeats 1000000 in
theorem nwA5 (n head : Int) (w : World) (h0 : 0 ≤ n) (h1 : n < 31) (g0 : 0 ≤ head) (g1 : head < 8) :
    Calls Try.prog 155 #[.int .i64 n, .int .i64 5, .int .i64 head] w fun e w' => e = .returned (.string (strOfNums [head * 32 + n])) ∧ Below w.heap.size w w' := by
  have hcv := fun n w => convert_one (P := Try.prog) Try.underlying22 Try.underlying5 Try.underlying9 n w
  go_enter Try.func155, Try.ntmps155
  go_wp2
  go_ret
  exact ⟨rfl, by go_grown⟩

set_option maxRecDepth 100000 in
set_option maxHeartbeats 1000000 in
theorem nwB5 (n head : Int) (w : World) (h0 : 31 ≤ n) (h1 : n < 31 + 128) (g0 : 0 ≤ head) (g1 : head < 8) :
    Calls Try.prog 155 #[.int .i64 n, .int .i64 5, .int .i64 head] w fun e w' => e = .returned (.string (strOfNums [head * 32 + 31, n - 31])) ∧ Below w.heap.size w w' := by
  obtain ⟨i5, hi, hz0, hz1, hz2⟩ := info_parts info5
  go_enter Try.func155, Try.ntmps155
  go_wp2
  refine wp_loop_rounds 1 ?_
  rw [rounds_succ]
  go_wp2_with (at_builtin; refine wpList_append_own _ rfl _ _ 22 rfl w.heap.size 5 i5 (.int .u8 0) 1 1 Try.underlying22 hi hz0 hz1 hz2 rfl (by decide) _ _ _ rfl ((own_one w 5 (.int .u8 (head * 32 + 31))).alloc _) ⟨w.heap.size + 1, 0, none⟩ 1 1 [.int .u8 (n - 31)] rfl rfl ?c1 ?c2 ?c3 ?c4 ?c5 ?_)
  case c1 => exact cell_one _ _ _ (by simp)
  case c2 => exact one_cell _ _
  case c3 => decide
  case c4 => decide
  case c5 => go_size
  intro v' w1 hown hgrow _
  have hcv := convert_owned (P := Try.prog) (xs := [head * 32 + 31, n - 31]) Try.underlying22 Try.underlying5 Try.underlying9 hown
  clear hown
  go_wp2
  go_ret
  exact ⟨rfl, Below.grown (by go_grown) hgrow (by go_size) (by intro k hk; simp [Value.ownBlock] at hk; omega)⟩

set_option maxRecDepth 100000 in
set_option maxHeartbeats 1000000 in
theorem nwC5 (n head : Int) (w : World) (h0 : 31 + 128 ≤ n) (h1 : n ≤ 9999) (g0 : 0 ≤ head) (g1 : head < 8) :
    Calls Try.prog 155 #[.int .i64 n, .int .i64 5, .int .i64 head] w fun e w' => e = .returned (.string (strOfNums [head * 32 + 31, 128 + (n - 31) % 128, (n - 31) / 128])) ∧ Below w.heap.size w w' := by
  obtain ⟨i5, hi, hz0, hz1, hz2⟩ := info_parts info5
  go_enter Try.func155, Try.ntmps155
  go_wp2
  refine wp_loop_rounds 2 ?_
  rw [rounds_succ]
  go_wp2_with (at_builtin; refine wpList_append_own _ rfl _ _ 22 rfl w.heap.size 5 i5 (.int .u8 0) 1 1 Try.underlying22 hi hz0 hz1 hz2 rfl (by decide) _ _ _ rfl ((own_one w 5 (.int .u8 (head * 32 + 31))).alloc _) ⟨w.heap.size + 1, 0, none⟩ 1 1 [.int .u8 (128 + (n - 31) % 128)] rfl rfl ?c1 ?c2 ?c3 ?c4 ?c5 ?_)
  case c1 => exact cell_one _ _ _ (by simp)
  case c2 => exact one_cell _ _
  case c3 => decide
  case c4 => decide
  case c5 => go_size
  intro v' w1 hown hgrow _
  have hlt : w.heap.size ≤ w1.heap.size := by have := hgrow.size; simp at this; omega
  go_wp2
  rw [rounds_succ]
  go_wp2_with (at_builtin; refine wpList_append_own _ rfl _ _ 22 rfl w.heap.size 5 i5 (.int .u8 0) 1 1 Try.underlying22 hi hz0 hz1 hz2 rfl (by decide) _ _ _ rfl (hown.alloc _) ⟨w1.heap.size, 0, none⟩ 1 1 [.int .u8 ((n - 31) / 128)] rfl rfl ?d1 ?d2 ?d3 ?d4 ?d5 ?_)
  case d1 => exact cell_one _ _ _ (by simp)
  case d2 => exact one_cell _ _
  case d3 => decide
  case d4 => decide
  case d5 => go_size
  intro v2 w2 hown2 hgrow2 _
  have hcv := convert_owned (P := Try.prog) (xs := [head * 32 + 31, 128 + (n - 31) % 128, (n - 31) / 128]) Try.underlying22 Try.underlying5 Try.underlying9 hown2
  clear hown2
  go_wp2
  go_ret
  refine ⟨rfl, Below.grown (Below.alloc (Below.grown (by go_grown) hgrow (by go_size) (by intro k hk; simp [Value.ownBlock] at hk; omega)) hlt _) hgrow2 (by go_size) ?_⟩
  intro k hk
  exact (hown.lt k hk).1

/-- 5 bits. -/
theorem nw5 (n head : Int) (w : World) (h0 : 0 ≤ n) (h1 : n ≤ 9999) (g0 : 0 ≤ head) (g1 : head < 8) :
    Calls Try.prog 155 #[.int .i64 n, .int .i64 5, .int .i64 head] w fun e w' => e = .returned (.string (numS n 5 head)) ∧ Below w.heap.size w w' := by
  unfold numS numL
  rw [pw5]
  by_cases h : n < 31
  · rw [if_pos (by omega)]; exact nwA5 n head w h0 h g0 g1
  · rw [if_neg (by omega)]
    by_cases h' : n < 31 + 128
    · rw [if_pos (by omega)]; exact nwB5 n head w (by omega) h' g0 g1
    · rw [if_neg (by omega)]; exact nwC5 n head w (by omega) h1 g0 g1

set_option maxRecDepth 100000 in
set_option maxHeartbeats 1000000 in
theorem nwA6 (n head : Int) (w : World) (h0 : 0 ≤ n) (h1 : n < 63) (g0 : 0 ≤ head) (g1 : head < 4) :
    Calls Try.prog 155 #[.int .i64 n, .int .i64 6, .int .i64 head] w fun e w' => e = .returned (.string (strOfNums [head * 64 + n])) ∧ Below w.heap.size w w' := by
  have hcv := fun n w => convert_one (P := Try.prog) Try.underlying22 Try.underlying5 Try.underlying9 n w
  go_enter Try.func155, Try.ntmps155
  go_wp2
  go_ret
  exact ⟨rfl, by go_grown⟩

set_option maxRecDepth 100000 in
set_option maxHeartbeats 1000000 in
theorem nwB6 (n head : Int) (w : World) (h0 : 63 ≤ n) (h1 : n < 63 + 128) (g0 : 0 ≤ head) (g1 : head < 4) :
    Calls Try.prog 155 #[.int .i64 n, .int .i64 6, .int .i64 head] w fun e w' => e = .returned (.string (strOfNums [head * 64 + 63, n - 63])) ∧ Below w.heap.size w w' := by
  obtain ⟨i5, hi, hz0, hz1, hz2⟩ := info_parts info5
  go_enter Try.func155, Try.ntmps155
  go_wp2
  refine wp_loop_rounds 1 ?_
  rw [rounds_succ]
  go_wp2_with (at_builtin; refine wpList_append_own _ rfl _ _ 22 rfl w.heap.size 5 i5 (.int .u8 0) 1 1 Try.underlying22 hi hz0 hz1 hz2 rfl (by decide) _ _ _ rfl ((own_one w 5 (.int .u8 (head * 64 + 63))).alloc _) ⟨w.heap.size + 1, 0, none⟩ 1 1 [.int .u8 (n - 63)] rfl rfl ?c1 ?c2 ?c3 ?c4 ?c5 ?_)
  case c1 => exact cell_one _ _ _ (by simp)
  case c2 => exact one_cell _ _
  case c3 => decide
  case c4 => decide
  case c5 => go_size
  intro v' w1 hown hgrow _
  have hcv := convert_owned (P := Try.prog) (xs := [head * 64 + 63, n - 63]) Try.underlying22 Try.underlying5 Try.underlying9 hown
  clear hown
  go_wp2
  go_ret
  exact ⟨rfl, Below.grown (by go_grown) hgrow (by go_size) (by intro k hk; simp [Value.ownBlock] at hk; omega)⟩

set_option maxRecDepth 100000 in
set_option maxHeartbeats 1000000 in
theorem nwC6 (n head : Int) (w : World) (h0 : 63 + 128 ≤ n) (h1 : n ≤ 9999) (g0 : 0 ≤ head) (g1 : head < 4) :
    Calls Try.prog 155 #[.int .i64 n, .int .i64 6, .int .i64 head] w fun e w' => e = .returned (.string (strOfNums [head * 64 + 63, 128 + (n - 63) % 128, (n - 63) / 128])) ∧ Below w.heap.size w w' := by
  obtain ⟨i5, hi, hz0, hz1, hz2⟩ := info_parts info5
  go_enter Try.func155, Try.ntmps155
  go_wp2
  refine wp_loop_rounds 2 ?_
  rw [rounds_succ]
  go_wp2_with (at_builtin; refine wpList_append_own _ rfl _ _ 22 rfl w.heap.size 5 i5 (.int .u8 0) 1 1 Try.underlying22 hi hz0 hz1 hz2 rfl (by decide) _ _ _ rfl ((own_one w 5 (.int .u8 (head * 64 + 63))).alloc _) ⟨w.heap.size + 1, 0, none⟩ 1 1 [.int .u8 (128 + (n - 63) % 128)] rfl rfl ?c1 ?c2 ?c3 ?c4 ?c5 ?_)
  case c1 => exact cell_one _ _ _ (by simp)
  case c2 => exact one_cell _ _
  case c3 => decide
  case c4 => decide
  case c5 => go_size
  intro v' w1 hown hgrow _
  have hlt : w.heap.size ≤ w1.heap.size := by have := hgrow.size; simp at this; omega
  go_wp2
  rw [rounds_succ]
  go_wp2_with (at_builtin; refine wpList_append_own _ rfl _ _ 22 rfl w.heap.size 5 i5 (.int .u8 0) 1 1 Try.underlying22 hi hz0 hz1 hz2 rfl (by decide) _ _ _ rfl (hown.alloc _) ⟨w1.heap.size, 0, none⟩ 1 1 [.int .u8 ((n - 63) / 128)] rfl rfl ?d1 ?d2 ?d3 ?d4 ?d5 ?_)
  case d1 => exact cell_one _ _ _ (by simp)
  case d2 => exact one_cell _ _
  case d3 => decide
  case d4 => decide
  case d5 => go_size
  intro v2 w2 hown2 hgrow2 _
  have hcv := convert_owned (P := Try.prog) (xs := [head * 64 + 63, 128 + (n - 63) % 128, (n - 63) / 128]) Try.underlying22 Try.underlying5 Try.underlying9 hown2
  clear hown2
  go_wp2
  go_ret
  refine ⟨rfl, Below.grown (Below.alloc (Below.grown (by go_grown) hgrow (by go_size) (by intro k hk; simp [Value.ownBlock] at hk; omega)) hlt _) hgrow2 (by go_size) ?_⟩
  intro k hk
  exact (hown.lt k hk).1

/-- 6 bits. -/
theorem nw6 (n head : Int) (w : World) (h0 : 0 ≤ n) (h1 : n ≤ 9999) (g0 : 0 ≤ head) (g1 : head < 4) :
    Calls Try.prog 155 #[.int .i64 n, .int .i64 6, .int .i64 head] w fun e w' => e = .returned (.string (numS n 6 head)) ∧ Below w.heap.size w w' := by
  unfold numS numL
  rw [pw6]
  by_cases h : n < 63
  · rw [if_pos (by omega)]; exact nwA6 n head w h0 h g0 g1
  · rw [if_neg (by omega)]
    by_cases h' : n < 63 + 128
    · rw [if_pos (by omega)]; exact nwB6 n head w (by omega) h' g0 g1
    · rw [if_neg (by omega)]; exact nwC6 n head w (by omega) h1 g0 g1

set_option maxRecDepth 100000 in
set_option maxHeartbeats 1000000 in
theorem nwA7 (n head : Int) (w : World) (h0 : 0 ≤ n) (h1 : n < 127) (g0 : 0 ≤ head) (g1 : head < 2) :
    Calls Try.prog 155 #[.int .i64 n, .int .i64 7, .int .i64 head] w fun e w' => e = .returned (.string (strOfNums [head * 128 + n])) ∧ Below w.heap.size w w' := by
  have hcv := fun n w => convert_one (P := Try.prog) Try.underlying22 Try.underlying5 Try.underlying9 n w
  go_enter Try.func155, Try.ntmps155
  go_wp2
  go_ret
  exact ⟨rfl, by go_grown⟩

set_option maxRecDepth 100000 in
set_option maxHeartbeats 1000000 in
theorem nwB7 (n head : Int) (w : World) (h0 : 127 ≤ n) (h1 : n < 127 + 128) (g0 : 0 ≤ head) (g1 : head < 2) :
    Calls Try.prog 155 #[.int .i64 n, .int .i64 7, .int .i64 head] w fun e w' => e = .returned (.string (strOfNums [head * 128 + 127, n - 127])) ∧ Below w.heap.size w w' := by
  obtain ⟨i5, hi, hz0, hz1, hz2⟩ := info_parts info5
  go_enter Try.func155, Try.ntmps155
  go_wp2
  refine wp_loop_rounds 1 ?_
  rw [rounds_succ]
  go_wp2_with (at_builtin; refine wpList_append_own _ rfl _ _ 22 rfl w.heap.size 5 i5 (.int .u8 0) 1 1 Try.underlying22 hi hz0 hz1 hz2 rfl (by decide) _ _ _ rfl ((own_one w 5 (.int .u8 (head * 128 + 127))).alloc _) ⟨w.heap.size + 1, 0, none⟩ 1 1 [.int .u8 (n - 127)] rfl rfl ?c1 ?c2 ?c3 ?c4 ?c5 ?_)
  case c1 => exact cell_one _ _ _ (by simp)
  case c2 => exact one_cell _ _
  case c3 => decide
  case c4 => decide
  case c5 => go_size
  intro v' w1 hown hgrow _
  have hcv := convert_owned (P := Try.prog) (xs := [head * 128 + 127, n - 127]) Try.underlying22 Try.underlying5 Try.underlying9 hown
  clear hown
  go_wp2
  go_ret
  exact ⟨rfl, Below.grown (by go_grown) hgrow (by go_size) (by intro k hk; simp [Value.ownBlock] at hk; omega)⟩

set_option maxRecDepth 100000 in
set_option maxHeartbeats 1000000 in
theorem nwC7 (n head : Int) (w : World) (h0 : 127 + 128 ≤ n) (h1 : n ≤ 9999) (g0 : 0 ≤ head) (g1 : head < 2) :
    Calls Try.prog 155 #[.int .i64 n, .int .i64 7, .int .i64 head] w fun e w' => e = .returned (.string (strOfNums [head * 128 + 127, 128 + (n - 127) % 128, (n - 127) / 128])) ∧ Below w.heap.size w w' := by
  obtain ⟨i5, hi, hz0, hz1, hz2⟩ := info_parts info5
  go_enter Try.func155, Try.ntmps155
  go_wp2
  refine wp_loop_rounds 2 ?_
  rw [rounds_succ]
  go_wp2_with (at_builtin; refine wpList_append_own _ rfl _ _ 22 rfl w.heap.size 5 i5 (.int .u8 0) 1 1 Try.underlying22 hi hz0 hz1 hz2 rfl (by decide) _ _ _ rfl ((own_one w 5 (.int .u8 (head * 128 + 127))).alloc _) ⟨w.heap.size + 1, 0, none⟩ 1 1 [.int .u8 (128 + (n - 127) % 128)] rfl rfl ?c1 ?c2 ?c3 ?c4 ?c5 ?_)
  case c1 => exact cell_one _ _ _ (by simp)
  case c2 => exact one_cell _ _
  case c3 => decide
  case c4 => decide
  case c5 => go_size
  intro v' w1 hown hgrow _
  have hlt : w.heap.size ≤ w1.heap.size := by have := hgrow.size; simp at this; omega
  go_wp2
  rw [rounds_succ]
  go_wp2_with (at_builtin; refine wpList_append_own _ rfl _ _ 22 rfl w.heap.size 5 i5 (.int .u8 0) 1 1 Try.underlying22 hi hz0 hz1 hz2 rfl (by decide) _ _ _ rfl (hown.alloc _) ⟨w1.heap.size, 0, none⟩ 1 1 [.int .u8 ((n - 127) / 128)] rfl rfl ?d1 ?d2 ?d3 ?d4 ?d5 ?_)
  case d1 => exact cell_one _ _ _ (by simp)
  case d2 => exact one_cell _ _
  case d3 => decide
  case d4 => decide
  case d5 => go_size
  intro v2 w2 hown2 hgrow2 _
  have hcv := convert_owned (P := Try.prog) (xs := [head * 128 + 127, 128 + (n - 127) % 128, (n - 127) / 128]) Try.underlying22 Try.underlying5 Try.underlying9 hown2
  clear hown2
  go_wp2
  go_ret
  refine ⟨rfl, Below.grown (Below.alloc (Below.grown (by go_grown) hgrow (by go_size) (by intro k hk; simp [Value.ownBlock] at hk; omega)) hlt _) hgrow2 (by go_size) ?_⟩
  intro k hk
  exact (hown.lt k hk).1

/-- 7 bits. -/
theorem nw7 (n head : Int) (w : World) (h0 : 0 ≤ n) (h1 : n ≤ 9999) (g0 : 0 ≤ head) (g1 : head < 2) :
    Calls Try.prog 155 #[.int .i64 n, .int .i64 7, .int .i64 head] w fun e w' => e = .returned (.string (numS n 7 head)) ∧ Below w.heap.size w w' := by
  unfold numS numL
  rw [pw7]
  by_cases h : n < 127
  · rw [if_pos (by omega)]; exact nwA7 n head w h0 h g0 g1
  · rw [if_neg (by omega)]
    by_cases h' : n < 127 + 128
    · rw [if_pos (by omega)]; exact nwB7 n head w (by omega) h' g0 g1
    · rw [if_neg (by omega)]; exact nwC7 n head w (by omega) h1 g0 g1

/-- What NumWrite writes. -/
theorem numWrite_ok (n bits head : Int) (w : World) (h : nOk n bits head) :
    Calls Try.prog 155 #[.int .i64 n, .int .i64 bits, .int .i64 head] w fun e w' => e = .returned (.string (numS n bits head)) ∧ Below w.heap.size w w' := by
  obtain ⟨b0, b1, h0, h1, g0, g1⟩ := h
  rcases bits_cases b0 b1 with rfl | rfl | rfl | rfl | rfl
  · exact nw3 n head w h0 h1 g0 (by rw [show (8 : Int) - 3 = 5 from rfl, pw5] at g1; exact g1)
  · exact nw4 n head w h0 h1 g0 (by rw [show (8 : Int) - 4 = 4 from rfl, pw4] at g1; exact g1)
  · exact nw5 n head w h0 h1 g0 (by rw [show (8 : Int) - 5 = 3 from rfl, pw3] at g1; exact g1)
  · exact nw6 n head w h0 h1 g0 (by rw [show (8 : Int) - 6 = 2 from rfl, pw2] at g1; exact g1)
  · exact nw7 n head w h0 h1 g0 (by rw [show (8 : Int) - 7 = 1 from rfl, pw1] at g1; exact g1)

set_option maxRecDepth 100000 in
set_option maxHeartbeats 1000000 in
theorem numWrite_bad (n bits head : Int) (w : World) (h : ¬ nOk n bits head) :
    Calls Try.prog 155 #[.int .i64 n, .int .i64 bits, .int .i64 head] w fun e w' => e = .returned (.string ⟨#[]⟩) ∧ w' = w := by
  by_cases c1 : n < 0
  · clear h
    go_enter Try.func155, Try.ntmps155
    go_wp2
    go_ret
    exact ⟨rfl, rfl⟩
  by_cases c2 : 9999 < n
  · clear h
    go_enter Try.func155, Try.ntmps155
    go_wp2
    go_ret
    exact ⟨rfl, rfl⟩
  by_cases c3 : bits < 3
  · clear h
    go_enter Try.func155, Try.ntmps155
    go_wp2
    go_ret
    exact ⟨rfl, rfl⟩
  by_cases c4 : 7 < bits
  · clear h
    go_enter Try.func155, Try.ntmps155
    go_wp2
    go_ret
    exact ⟨rfl, rfl⟩
  by_cases c5 : head < 0
  · clear h
    go_enter Try.func155, Try.ntmps155
    go_wp2
    go_ret
    exact ⟨rfl, rfl⟩
  have c6 : pw (8 - bits) ≤ head := by
    by_cases c : pw (8 - bits) ≤ head
    · exact c
    · exact absurd ⟨by omega, by omega, by omega, by omega, by omega, by omega⟩ h
  clear h
  rcases bits_cases (bits := bits) (by omega) (by omega) with rfl | rfl | rfl | rfl | rfl
  all_goals
    simp only [show (8 : Int) - 3 = 5 from rfl, show (8 : Int) - 4 = 4 from rfl, show (8 : Int) - 5 = 3 from rfl, show (8 : Int) - 6 = 2 from rfl, show (8 : Int) - 7 = 1 from rfl, pw1, pw2, pw3, pw4, pw5] at c6
    go_enter Try.func155, Try.ntmps155
    go_wp2
    go_ret
    exact ⟨rfl, rfl⟩
end Go.Proofs.Ytghgcobnmmommaa
