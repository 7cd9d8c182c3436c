import Derived.Test.YtbhoafiolalgaaaGreatBA
namespace Go.Proofs.YtbhoafiolalgaaaGreat
open Go.RowKit
set_option linter.unusedVariables false

set_option maxRecDepth 100000 in
set_option maxHeartbeats 1000000 in
theorem swA3 (n head : Int) (w : World) (h0 : 0 ≤ n) (h1 : n < 7) (g0 : 0 ≤ head) (g1 : head < 32) :
    Calls Tryz.prog 55 #[.int .i64 n, .int .i64 3, .int .i64 head] w fun e w' => e = .returned (.string (strOfNums [head * 8 + n])) ∧ Below w.heap.size w w' := by
  go_enter Tryz.func55, Tryz.ntmps55
  go_wp2_with fail
  refine (l1Top_any _ _ (by decide) (by decide)).mono ?_
  rintro e w' ⟨rfl, rfl⟩
  rw [pw3]
  go_wp2_with fail
  refine (l1Byte_any _ _ (by omega) (by omega)).mono ?_
  rintro e w' ⟨rfl, hb⟩
  go_wp2
  go_ret
  exact ⟨rfl, hb⟩

set_option maxRecDepth 100000 in
set_option maxHeartbeats 1000000 in
theorem swB3 (n head : Int) (w : World) (h0 : 7 ≤ n) (h1 : n < 7 + 128) (g0 : 0 ≤ head) (g1 : head < 32) :
    Calls Tryz.prog 55 #[.int .i64 n, .int .i64 3, .int .i64 head] w fun e w' => e = .returned (.string (strOfNums [head * 8 + 7, n - 7])) ∧ Below w.heap.size w w' := by
  go_enter Tryz.func55, Tryz.ntmps55
  go_wp2_with fail
  refine (l1Top_any _ _ (by decide) (by decide)).mono ?_
  rintro e w' ⟨rfl, rfl⟩
  rw [pw3]
  go_wp2_with fail
  refine (l1Byte_any _ _ (by omega) (by omega)).mono ?_
  rintro e w1 ⟨rfl, hb⟩
  go_wp2
  refine wp_loop_rounds 1 ?_
  rw [rounds_succ]
  go_wp2_with fail
  refine (l1Byte_any _ _ (by omega) (by omega)).mono ?_
  rintro e w2 ⟨rfl, hb2⟩
  go_wp2
  go_ret
  exact ⟨ret_str (strOfNums_append _ _), hb.trans (hb2.mono hb.size)⟩

set_option maxRecDepth 100000 in
set_option maxHeartbeats 1000000 in
theorem swC3 (n head : Int) (w : World) (h0 : 7 + 128 ≤ n) (h1 : n ≤ 9999) (g0 : 0 ≤ head) (g1 : head < 32) :
    Calls Tryz.prog 55 #[.int .i64 n, .int .i64 3, .int .i64 head] w fun e w' => e = .returned (.string (strOfNums [head * 8 + 7, 128 + (n - 7) % 128, (n - 7) / 128])) ∧ Below w.heap.size w w' := by
  go_enter Tryz.func55, Tryz.ntmps55
  go_wp2_with fail
  refine (l1Top_any _ _ (by decide) (by decide)).mono ?_
  rintro e w' ⟨rfl, rfl⟩
  rw [pw3]
  go_wp2_with fail
  refine (l1Byte_any _ _ (by omega) (by omega)).mono ?_
  rintro e w1 ⟨rfl, hb⟩
  go_wp2
  refine wp_loop_rounds 2 ?_
  rw [rounds_succ]
  go_wp2_with fail
  refine (l1Byte_any _ _ (by omega) (by omega)).mono ?_
  rintro e w2 ⟨rfl, hb2⟩
  go_wp2
  rw [rounds_succ]
  go_wp2_with fail
  refine (l1Byte_any _ _ (by omega) (by omega)).mono ?_
  rintro e w3 ⟨rfl, hb3⟩
  go_wp2
  go_ret
  refine ⟨ret_str ?_, hb.trans ((hb2.trans (hb3.mono hb2.size)).mono hb.size)⟩
  rw [strOfNums_append, strOfNums_append, Int.add_comm 128]; rfl

/-- 3 bits. -/
theorem sw3 (n head : Int) (w : World) (h0 : 0 ≤ n) (h1 : n ≤ 9999) (g0 : 0 ≤ head) (g1 : head < 32) :
    Calls Tryz.prog 55 #[.int .i64 n, .int .i64 3, .int .i64 head] w fun e w' => e = .returned (.string (numS n 3 head)) ∧ Below w.heap.size w w' := by
  unfold numS numL
  rw [pw3]
  by_cases h : n < 7
  · rw [if_pos (by omega)]; exact swA3 n head w h0 h g0 g1
  · rw [if_neg (by omega)]
    by_cases h' : n < 7 + 128
    · rw [if_pos (by omega)]; exact swB3 n head w (by omega) h' g0 g1
    · rw [if_neg (by omega)]; exact swC3 n head w (by omega) h1 g0 g1

set_option maxRecDepth 100000 in
set_option maxHeartbeats 1000000 in
theorem swA4 (n head : Int) (w : World) (h0 : 0 ≤ n) (h1 : n < 15) (g0 : 0 ≤ head) (g1 : head < 16) :
    Calls Tryz.prog 55 #[.int .i64 n, .int .i64 4, .int .i64 head] w fun e w' => e = .returned (.string (strOfNums [head * 16 + n])) ∧ Below w.heap.size w w' := by
  go_enter Tryz.func55, Tryz.ntmps55
  go_wp2_with fail
  refine (l1Top_any _ _ (by decide) (by decide)).mono ?_
  rintro e w' ⟨rfl, rfl⟩
  rw [pw4]
  go_wp2_with fail
  refine (l1Byte_any _ _ (by omega) (by omega)).mono ?_
  rintro e w' ⟨rfl, hb⟩
  go_wp2
  go_ret
  exact ⟨rfl, hb⟩

set_option maxRecDepth 100000 in
set_option maxHeartbeats 1000000 in
theorem swB4 (n head : Int) (w : World) (h0 : 15 ≤ n) (h1 : n < 15 + 128) (g0 : 0 ≤ head) (g1 : head < 16) :
    Calls Tryz.prog 55 #[.int .i64 n, .int .i64 4, .int .i64 head] w fun e w' => e = .returned (.string (strOfNums [head * 16 + 15, n - 15])) ∧ Below w.heap.size w w' := by
  go_enter Tryz.func55, Tryz.ntmps55
  go_wp2_with fail
  refine (l1Top_any _ _ (by decide) (by decide)).mono ?_
  rintro e w' ⟨rfl, rfl⟩
  rw [pw4]
  go_wp2_with fail
  refine (l1Byte_any _ _ (by omega) (by omega)).mono ?_
  rintro e w1 ⟨rfl, hb⟩
  go_wp2
  refine wp_loop_rounds 1 ?_
  rw [rounds_succ]
  go_wp2_with fail
  refine (l1Byte_any _ _ (by omega) (by omega)).mono ?_
  rintro e w2 ⟨rfl, hb2⟩
  go_wp2
  go_ret
  exact ⟨ret_str (strOfNums_append _ _), hb.trans (hb2.mono hb.size)⟩

set_option maxRecDepth 100000 in
set_option maxHeartbeats 1000000 in
theorem swC4 (n head : Int) (w : World) (h0 : 15 + 128 ≤ n) (h1 : n ≤ 9999) (g0 : 0 ≤ head) (g1 : head < 16) :
    Calls Tryz.prog 55 #[.int .i64 n, .int .i64 4, .int .i64 head] w fun e w' => e = .returned (.string (strOfNums [head * 16 + 15, 128 + (n - 15) % 128, (n - 15) / 128])) ∧ Below w.heap.size w w' := by
  go_enter Tryz.func55, Tryz.ntmps55
  go_wp2_with fail
  refine (l1Top_any _ _ (by decide) (by decide)).mono ?_
  rintro e w' ⟨rfl, rfl⟩
  rw [pw4]
  go_wp2_with fail
  refine (l1Byte_any _ _ (by omega) (by omega)).mono ?_
  rintro e w1 ⟨rfl, hb⟩
  go_wp2
  refine wp_loop_rounds 2 ?_
  rw [rounds_succ]
  go_wp2_with fail
  refine (l1Byte_any _ _ (by omega) (by omega)).mono ?_
  rintro e w2 ⟨rfl, hb2⟩
  go_wp2
  rw [rounds_succ]
  go_wp2_with fail
  refine (l1Byte_any _ _ (by omega) (by omega)).mono ?_
  rintro e w3 ⟨rfl, hb3⟩
  go_wp2
  go_ret
  refine ⟨ret_str ?_, hb.trans ((hb2.trans (hb3.mono hb2.size)).mono hb.size)⟩
  rw [strOfNums_append, strOfNums_append, Int.add_comm 128]; rfl

/-- 4 bits. -/
theorem sw4 (n head : Int) (w : World) (h0 : 0 ≤ n) (h1 : n ≤ 9999) (g0 : 0 ≤ head) (g1 : head < 16) :
    Calls Tryz.prog 55 #[.int .i64 n, .int .i64 4, .int .i64 head] w fun e w' => e = .returned (.string (numS n 4 head)) ∧ Below w.heap.size w w' := by
  unfold numS numL
  rw [pw4]
  by_cases h : n < 15
  · rw [if_pos (by omega)]; exact swA4 n head w h0 h g0 g1
  · rw [if_neg (by omega)]
    by_cases h' : n < 15 + 128
    · rw [if_pos (by omega)]; exact swB4 n head w (by omega) h' g0 g1
    · rw [if_neg (by omega)]; exact swC4 n head w (by omega) h1 g0 g1

set_option maxRecDepth 100000 in
set_option maxHeartbeats 1000000 in
theorem swA5 (n head : Int) (w : World) (h0 : 0 ≤ n) (h1 : n < 31) (g0 : 0 ≤ head) (g1 : head < 8) :
    Calls Tryz.prog 55 #[.int .i64 n, .int .i64 5, .int .i64 head] w fun e w' => e = .returned (.string (strOfNums [head * 32 + n])) ∧ Below w.heap.size w w' := by
  go_enter Tryz.func55, Tryz.ntmps55
  go_wp2_with fail
  refine (l1Top_any _ _ (by decide) (by decide)).mono ?_
  rintro e w' ⟨rfl, rfl⟩
  rw [pw5]
  go_wp2_with fail
  refine (l1Byte_any _ _ (by omega) (by omega)).mono ?_
  rintro e w' ⟨rfl, hb⟩
  go_wp2
  go_ret
  exact ⟨rfl, hb⟩

set_option maxRecDepth 100000 in
set_option maxHeartbeats 1000000 in
theorem swB5 (n head : Int) (w : World) (h0 : 31 ≤ n) (h1 : n < 31 + 128) (g0 : 0 ≤ head) (g1 : head < 8) :
    Calls Tryz.prog 55 #[.int .i64 n, .int .i64 5, .int .i64 head] w fun e w' => e = .returned (.string (strOfNums [head * 32 + 31, n - 31])) ∧ Below w.heap.size w w' := by
  go_enter Tryz.func55, Tryz.ntmps55
  go_wp2_with fail
  refine (l1Top_any _ _ (by decide) (by decide)).mono ?_
  rintro e w' ⟨rfl, rfl⟩
  rw [pw5]
  go_wp2_with fail
  refine (l1Byte_any _ _ (by omega) (by omega)).mono ?_
  rintro e w1 ⟨rfl, hb⟩
  go_wp2
  refine wp_loop_rounds 1 ?_
  rw [rounds_succ]
  go_wp2_with fail
  refine (l1Byte_any _ _ (by omega) (by omega)).mono ?_
  rintro e w2 ⟨rfl, hb2⟩
  go_wp2
  go_ret
  exact ⟨ret_str (strOfNums_append _ _), hb.trans (hb2.mono hb.size)⟩

set_option maxRecDepth 100000 in
set_option maxHeartbeats 1000000 in
theorem swC5 (n head : Int) (w : World) (h0 : 31 + 128 ≤ n) (h1 : n ≤ 9999) (g0 : 0 ≤ head) (g1 : head < 8) :
    Calls Tryz.prog 55 #[.int .i64 n, .int .i64 5, .int .i64 head] w fun e w' => e = .returned (.string (strOfNums [head * 32 + 31, 128 + (n - 31) % 128, (n - 31) / 128])) ∧ Below w.heap.size w w' := by
  go_enter Tryz.func55, Tryz.ntmps55
  go_wp2_with fail
  refine (l1Top_any _ _ (by decide) (by decide)).mono ?_
  rintro e w' ⟨rfl, rfl⟩
  rw [pw5]
  go_wp2_with fail
  refine (l1Byte_any _ _ (by omega) (by omega)).mono ?_
  rintro e w1 ⟨rfl, hb⟩
  go_wp2
  refine wp_loop_rounds 2 ?_
  rw [rounds_succ]
  go_wp2_with fail
  refine (l1Byte_any _ _ (by omega) (by omega)).mono ?_
  rintro e w2 ⟨rfl, hb2⟩
  go_wp2
  rw [rounds_succ]
  go_wp2_with fail
  refine (l1Byte_any _ _ (by omega) (by omega)).mono ?_
  rintro e w3 ⟨rfl, hb3⟩
  go_wp2
  go_ret
  refine ⟨ret_str ?_, hb.trans ((hb2.trans (hb3.mono hb2.size)).mono hb.size)⟩
  rw [strOfNums_append, strOfNums_append, Int.add_comm 128]; rfl

/-- 5 bits. -/
theorem sw5 (n head : Int) (w : World) (h0 : 0 ≤ n) (h1 : n ≤ 9999) (g0 : 0 ≤ head) (g1 : head < 8) :
    Calls Tryz.prog 55 #[.int .i64 n, .int .i64 5, .int .i64 head] w fun e w' => e = .returned (.string (numS n 5 head)) ∧ Below w.heap.size w w' := by
  unfold numS numL
  rw [pw5]
  by_cases h : n < 31
  · rw [if_pos (by omega)]; exact swA5 n head w h0 h g0 g1
  · rw [if_neg (by omega)]
    by_cases h' : n < 31 + 128
    · rw [if_pos (by omega)]; exact swB5 n head w (by omega) h' g0 g1
    · rw [if_neg (by omega)]; exact swC5 n head w (by omega) h1 g0 g1

set_option maxRecDepth 100000 in
set_option maxHeartbeats 1000000 in
theorem swA6 (n head : Int) (w : World) (h0 : 0 ≤ n) (h1 : n < 63) (g0 : 0 ≤ head) (g1 : head < 4) :
    Calls Tryz.prog 55 #[.int .i64 n, .int .i64 6, .int .i64 head] w fun e w' => e = .returned (.string (strOfNums [head * 64 + n])) ∧ Below w.heap.size w w' := by
  go_enter Tryz.func55, Tryz.ntmps55
  go_wp2_with fail
  refine (l1Top_any _ _ (by decide) (by decide)).mono ?_
  rintro e w' ⟨rfl, rfl⟩
  rw [pw6]
  go_wp2_with fail
  refine (l1Byte_any _ _ (by omega) (by omega)).mono ?_
  rintro e w' ⟨rfl, hb⟩
  go_wp2
  go_ret
  exact ⟨rfl, hb⟩

set_option maxRecDepth 100000 in
set_option maxHeartbeats 1000000 in
theorem swB6 (n head : Int) (w : World) (h0 : 63 ≤ n) (h1 : n < 63 + 128) (g0 : 0 ≤ head) (g1 : head < 4) :
    Calls Tryz.prog 55 #[.int .i64 n, .int .i64 6, .int .i64 head] w fun e w' => e = .returned (.string (strOfNums [head * 64 + 63, n - 63])) ∧ Below w.heap.size w w' := by
  go_enter Tryz.func55, Tryz.ntmps55
  go_wp2_with fail
  refine (l1Top_any _ _ (by decide) (by decide)).mono ?_
  rintro e w' ⟨rfl, rfl⟩
  rw [pw6]
  go_wp2_with fail
  refine (l1Byte_any _ _ (by omega) (by omega)).mono ?_
  rintro e w1 ⟨rfl, hb⟩
  go_wp2
  refine wp_loop_rounds 1 ?_
  rw [rounds_succ]
  go_wp2_with fail
  refine (l1Byte_any _ _ (by omega) (by omega)).mono ?_
  rintro e w2 ⟨rfl, hb2⟩
  go_wp2
  go_ret
  exact ⟨ret_str (strOfNums_append _ _), hb.trans (hb2.mono hb.size)⟩

set_option maxRecDepth 100000 in
set_option maxHeartbeats 1000000 in
theorem swC6 (n head : Int) (w : World) (h0 : 63 + 128 ≤ n) (h1 : n ≤ 9999) (g0 : 0 ≤ head) (g1 : head < 4) :
    Calls Tryz.prog 55 #[.int .i64 n, .int .i64 6, .int .i64 head] w fun e w' => e = .returned (.string (strOfNums [head * 64 + 63, 128 + (n - 63) % 128, (n - 63) / 128])) ∧ Below w.heap.size w w' := by
  go_enter Tryz.func55, Tryz.ntmps55
  go_wp2_with fail
  refine (l1Top_any _ _ (by decide) (by decide)).mono ?_
  rintro e w' ⟨rfl, rfl⟩
  rw [pw6]
  go_wp2_with fail
  refine (l1Byte_any _ _ (by omega) (by omega)).mono ?_
  rintro e w1 ⟨rfl, hb⟩
  go_wp2
  refine wp_loop_rounds 2 ?_
  rw [rounds_succ]
  go_wp2_with fail
  refine (l1Byte_any _ _ (by omega) (by omega)).mono ?_
  rintro e w2 ⟨rfl, hb2⟩
  go_wp2
  rw [rounds_succ]
  go_wp2_with fail
  refine (l1Byte_any _ _ (by omega) (by omega)).mono ?_
  rintro e w3 ⟨rfl, hb3⟩
  go_wp2
  go_ret
  refine ⟨ret_str ?_, hb.trans ((hb2.trans (hb3.mono hb2.size)).mono hb.size)⟩
  rw [strOfNums_append, strOfNums_append, Int.add_comm 128]; rfl

/-- 6 bits. -/
theorem sw6 (n head : Int) (w : World) (h0 : 0 ≤ n) (h1 : n ≤ 9999) (g0 : 0 ≤ head) (g1 : head < 4) :
    Calls Tryz.prog 55 #[.int .i64 n, .int .i64 6, .int .i64 head] w fun e w' => e = .returned (.string (numS n 6 head)) ∧ Below w.heap.size w w' := by
  unfold numS numL
  rw [pw6]
  by_cases h : n < 63
  · rw [if_pos (by omega)]; exact swA6 n head w h0 h g0 g1
  · rw [if_neg (by omega)]
    by_cases h' : n < 63 + 128
    · rw [if_pos (by omega)]; exact swB6 n head w (by omega) h' g0 g1
    · rw [if_neg (by omega)]; exact swC6 n head w (by omega) h1 g0 g1

set_option maxRecDepth 100000 in
set_option maxHeartbeats 1000000 in
theorem swA7 (n head : Int) (w : World) (h0 : 0 ≤ n) (h1 : n < 127) (g0 : 0 ≤ head) (g1 : head < 2) :
    Calls Tryz.prog 55 #[.int .i64 n, .int .i64 7, .int .i64 head] w fun e w' => e = .returned (.string (strOfNums [head * 128 + n])) ∧ Below w.heap.size w w' := by
  go_enter Tryz.func55, Tryz.ntmps55
  go_wp2_with fail
  refine (l1Top_any _ _ (by decide) (by decide)).mono ?_
  rintro e w' ⟨rfl, rfl⟩
  rw [pw7]
  go_wp2_with fail
  refine (l1Byte_any _ _ (by omega) (by omega)).mono ?_
  rintro e w' ⟨rfl, hb⟩
  go_wp2
  go_ret
  exact ⟨rfl, hb⟩

set_option maxRecDepth 100000 in
set_option maxHeartbeats 1000000 in
theorem swB7 (n head : Int) (w : World) (h0 : 127 ≤ n) (h1 : n < 127 + 128) (g0 : 0 ≤ head) (g1 : head < 2) :
    Calls Tryz.prog 55 #[.int .i64 n, .int .i64 7, .int .i64 head] w fun e w' => e = .returned (.string (strOfNums [head * 128 + 127, n - 127])) ∧ Below w.heap.size w w' := by
  go_enter Tryz.func55, Tryz.ntmps55
  go_wp2_with fail
  refine (l1Top_any _ _ (by decide) (by decide)).mono ?_
  rintro e w' ⟨rfl, rfl⟩
  rw [pw7]
  go_wp2_with fail
  refine (l1Byte_any _ _ (by omega) (by omega)).mono ?_
  rintro e w1 ⟨rfl, hb⟩
  go_wp2
  refine wp_loop_rounds 1 ?_
  rw [rounds_succ]
  go_wp2_with fail
  refine (l1Byte_any _ _ (by omega) (by omega)).mono ?_
  rintro e w2 ⟨rfl, hb2⟩
  go_wp2
  go_ret
  exact ⟨ret_str (strOfNums_append _ _), hb.trans (hb2.mono hb.size)⟩

set_option maxRecDepth 100000 in
set_option maxHeartbeats 1000000 in
theorem swC7 (n head : Int) (w : World) (h0 : 127 + 128 ≤ n) (h1 : n ≤ 9999) (g0 : 0 ≤ head) (g1 : head < 2) :
    Calls Tryz.prog 55 #[.int .i64 n, .int .i64 7, .int .i64 head] w fun e w' => e = .returned (.string (strOfNums [head * 128 + 127, 128 + (n - 127) % 128, (n - 127) / 128])) ∧ Below w.heap.size w w' := by
  go_enter Tryz.func55, Tryz.ntmps55
  go_wp2_with fail
  refine (l1Top_any _ _ (by decide) (by decide)).mono ?_
  rintro e w' ⟨rfl, rfl⟩
  rw [pw7]
  go_wp2_with fail
  refine (l1Byte_any _ _ (by omega) (by omega)).mono ?_
  rintro e w1 ⟨rfl, hb⟩
  go_wp2
  refine wp_loop_rounds 2 ?_
  rw [rounds_succ]
  go_wp2_with fail
  refine (l1Byte_any _ _ (by omega) (by omega)).mono ?_
  rintro e w2 ⟨rfl, hb2⟩
  go_wp2
  rw [rounds_succ]
  go_wp2_with fail
  refine (l1Byte_any _ _ (by omega) (by omega)).mono ?_
  rintro e w3 ⟨rfl, hb3⟩
  go_wp2
  go_ret
  refine ⟨ret_str ?_, hb.trans ((hb2.trans (hb3.mono hb2.size)).mono hb.size)⟩
  rw [strOfNums_append, strOfNums_append, Int.add_comm 128]; rfl

/-- 7 bits. -/
theorem sw7 (n head : Int) (w : World) (h0 : 0 ≤ n) (h1 : n ≤ 9999) (g0 : 0 ≤ head) (g1 : head < 2) :
    Calls Tryz.prog 55 #[.int .i64 n, .int .i64 7, .int .i64 head] w fun e w' => e = .returned (.string (numS n 7 head)) ∧ Below w.heap.size w w' := by
  unfold numS numL
  rw [pw7]
  by_cases h : n < 127
  · rw [if_pos (by omega)]; exact swA7 n head w h0 h g0 g1
  · rw [if_neg (by omega)]
    by_cases h' : n < 127 + 128
    · rw [if_pos (by omega)]; exact swB7 n head w (by omega) h' g0 g1
    · rw [if_neg (by omega)]; exact swC7 n head w (by omega) h1 g0 g1

theorem l1Write_ok (n bits head : Int) (w : World) (h : nOk n bits head) :
    Calls Tryz.prog 55 #[.int .i64 n, .int .i64 bits, .int .i64 head] w fun e w' => e = .returned (.string (numS n bits head)) ∧ Below w.heap.size w w' := by
  obtain ⟨b0, b1, h0, h1, g0, g1⟩ := h
  rcases bits_cases b0 b1 with rfl | rfl | rfl | rfl | rfl
  · exact sw3 n head w h0 h1 g0 (by rw [show (8 : Int) - 3 = 5 from rfl, pw5] at g1; exact g1)
  · exact sw4 n head w h0 h1 g0 (by rw [show (8 : Int) - 4 = 4 from rfl, pw4] at g1; exact g1)
  · exact sw5 n head w h0 h1 g0 (by rw [show (8 : Int) - 5 = 3 from rfl, pw3] at g1; exact g1)
  · exact sw6 n head w h0 h1 g0 (by rw [show (8 : Int) - 6 = 2 from rfl, pw2] at g1; exact g1)
  · exact sw7 n head w h0 h1 g0 (by rw [show (8 : Int) - 7 = 1 from rfl, pw1] at g1; exact g1)
end Go.Proofs.YtbhoafiolalgaaaGreat
