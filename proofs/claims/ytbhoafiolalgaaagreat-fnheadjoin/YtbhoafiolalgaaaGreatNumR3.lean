import Derived.Test.YtbhoafiolalgaaaGreatNumR
import Derived.Deep.RegionHeld3
namespace Go.Proofs.YtbhoafiolalgaaaGreat
open Go.RowKit
set_option linter.unusedVariables false

set_option maxRecDepth 100000 in
set_option maxHeartbeats 1000000 in
theorem irA3 (s : ByteArray) (x0 m : Int) (w : World) (hs : 0 < s.size) (hm : s.size ≤ maxLen) (hmin : (if 3 < (s.size : Int) then (3 : Int) else (s.size : Int)) = m) (q0 : ((s[0]'hs).toNat : Int) = x0) (a0 : 0 ≤ x0) (a1 : x0 ≤ 255) (hlt : x0 % 8 < 7) (m1 : 1 ≤ m) :
    Calls Tryz.prog 43 #[.string s, .int .i64 3] w fun e w' => e = .returned (.tuple #[.int .i64 (x0 % 8), .int .i64 1, .bool true]) ∧ Below w.heap.size w w' := by
  have hmf : ∀ (fn : Fn) (first cap : Array Value) (w : World), (Instr.makeFunc fn first cap).run Tryz.prog w = .ok (.func fn first cap) w := fun _ _ _ _ => rfl
  have hsz : ((s.size : Int) == 0) = false := by simp; exact fun h => by rw [h] at hs; simp at hs
  have hwr : IntKind.i64.wrap x0 = x0 := by rw [IntKind.wrap_i64]; omega
  unfold maxLen at hm
  have hmore : (x0 % 8 == 7) = false := by simp; omega
  have hi1 : (1 : Int) ≤ (s.size : Int) := by omega
  have hN : nOk (x0 % 8) 3 (x0 / 8) := ⟨by decide, by decide, by omega, by omega, by omega, by show x0 / 8 < 32; omega⟩
  have hcmp : ((s.extract 0 1).toList == (numS (x0 % 8) 3 (x0 / 8)).toList) = true := eqT (by
    rw [extract_take]
    unfold numS numL
    rw [pw3, if_pos (by omega), show x0 / 8 * 8 + x0 % 8 = x0 by omega, take_one s hs, q0])
  have HN : Hid (nOk (x0 % 8) 3 (x0 / 8)) := hN
  clear hN
  go_enter Tryz.func43, Tryz.ntmps43
  go_wp2
  refine wp_loop_rounds 2 ?_
  rw [rounds_succ]
  go_wp2_with fail
  refine (first3 _ _ _ _ _ (rd_alloc _ _ _ _ _) (by assumption) (by assumption)).mono ?_
  rw [hmore]
  rintro e w1 ⟨rfl, hr, hb1⟩
  obtain ⟨c0, c1, c2, f1, f2⟩ := hr
  have hz1 : w.heap.size < w1.heap.size := by have := hb1.size; simp at this; omega
  go_wp2
  rw [rounds_succ]
  go_wp2
  go_region_held3 (fun w' => w'.cell? ⟨w.heap.size, 1, none⟩ = some (.int .i64 (x0 % 8))) (first | go_keep | exact keep_cell hbN (by simp; omega) (by assumption)) ((go_at_call 67; refine (numWrite_ok _ _ _ _ HN.out).mono ?_; rintro e wN ⟨rfl, hbN⟩))
  go_wp2
  go_ret3
  exact ⟨rfl, ((Below.alloc (Below.refl _ _) (Nat.le_refl _) _).trans hb1).drew.trans (hbN.mono (show w.heap.size ≤ w1.heap.size by omega))⟩

set_option maxRecDepth 100000 in
set_option maxHeartbeats 1000000 in
theorem irB3 (s : ByteArray) (x0 m : Int) (w : World) (hs : 0 < s.size) (hm : s.size ≤ maxLen) (hmin : (if 3 < (s.size : Int) then (3 : Int) else (s.size : Int)) = m) (q0 : ((s[0]'hs).toNat : Int) = x0) (a0 : 0 ≤ x0) (a1 : x0 ≤ 255) (hge : 7 ≤ x0 % 8) (h1 : s.size = 1) (m1 : 1 ≤ m) (m2 : m ≤ 1) :
    Calls Tryz.prog 43 #[.string s, .int .i64 3] w fun e w' => e = .returned (.tuple #[.int .i64 0, .int .i64 0, .bool false]) ∧ Below w.heap.size w w' := by
  have hmf : ∀ (fn : Fn) (first cap : Array Value) (w : World), (Instr.makeFunc fn first cap).run Tryz.prog w = .ok (.func fn first cap) w := fun _ _ _ _ => rfl
  have hsz : ((s.size : Int) == 0) = false := by simp; exact fun h => by rw [h] at hs; simp at hs
  unfold maxLen at hm
  have hmore : (x0 % 8 == 7) = true := by simp; omega
  clear h1
  go_enter Tryz.func43, Tryz.ntmps43
  go_wp2
  refine wp_loop_rounds 2 ?_
  rw [rounds_succ]
  go_wp2_with fail
  refine (first3 _ _ _ _ _ (rd_alloc _ _ _ _ _) (by assumption) (by assumption)).mono ?_
  rw [hmore]
  rintro e w1 ⟨rfl, hr, hb1⟩
  obtain ⟨c0, c1, c2, f1, f2⟩ := hr
  have hz1 : w.heap.size < w1.heap.size := by have := hb1.size; simp at this; omega
  go_wp2
  rw [rounds_succ]
  go_wp2
  go_quiet (fail)
  go_wp2
  go_ret3
  exact ⟨rfl, below_drewN (Below.trans (Below.alloc (Below.refl _ _) (Nat.le_refl _) _) hb1) _⟩

set_option maxRecDepth 100000 in
set_option maxHeartbeats 1000000 in
theorem irC3 (s : ByteArray) (x0 x1 m : Int) (w : World) (hs : 0 < s.size) (hm : s.size ≤ maxLen) (hmin : (if 3 < (s.size : Int) then (3 : Int) else (s.size : Int)) = m) (q0 : ((s[0]'hs).toNat : Int) = x0) (a0 : 0 ≤ x0) (a1 : x0 ≤ 255) (hge : 7 ≤ x0 % 8) (hs1 : 1 < s.size) (q1 : ((s[1]'hs1).toNat : Int) = x1) (b0 : 0 ≤ x1) (b1 : x1 < 128) (m1 : 2 ≤ m) :
    Calls Tryz.prog 43 #[.string s, .int .i64 3] w fun e w' => e = .returned (.tuple #[.int .i64 (7 + x1), .int .i64 2, .bool true]) ∧ Below w.heap.size w w' := by
  have hmf : ∀ (fn : Fn) (first cap : Array Value) (w : World), (Instr.makeFunc fn first cap).run Tryz.prog w = .ok (.func fn first cap) w := fun _ _ _ _ => rfl
  have hsz : ((s.size : Int) == 0) = false := by simp; exact fun h => by rw [h] at hs; simp at hs
  have hwr : IntKind.i64.wrap x0 = x0 := by rw [IntKind.wrap_i64]; omega
  unfold maxLen at hm
  have hmore : (x0 % 8 == 7) = true := by simp; omega
  have hi1 : (2 : Int) ≤ (s.size : Int) := by omega
  have HN : Hid (nOk (7 + x1) 3 (x0 / 8)) := show nOk (7 + x1) 3 (x0 / 8) from ⟨by decide, by decide, by omega, by omega, by omega, by show x0 / 8 < 32; omega⟩
  have hcmp : ((s.extract 0 2).toList == (numS (7 + x1) 3 (x0 / 8)).toList) = true := eqT (by
    rw [extract_take]
    unfold numS numL
    rw [pw3, if_neg (by omega), if_pos (by omega), show x0 / 8 * 8 + (8 - 1) = x0 by omega, show 7 + x1 - (8 - 1) = x1 by omega, take_two s hs hs1, q0, q1])
  have hmore2 : decide (128 ≤ x1) = false := by simp; omega
  have E2 : Hid (7 + x1 % 128 = 7 + x1) := show 7 + x1 % 128 = 7 + x1 by omega
  go_enter Tryz.func43, Tryz.ntmps43
  go_wp2
  refine wp_loop_rounds 3 ?_
  rw [rounds_succ]
  go_wp2_with fail
  refine (first3 _ _ _ _ _ (rd_alloc _ _ _ _ _) (by assumption) (by assumption)).mono ?_
  rw [hmore]
  rintro e w1 ⟨rfl, hr, hb1⟩
  have e1 : x0 % 8 = 7 := by omega
  rw [e1] at hr
  clear e1
  obtain ⟨c0, c1, c2, f1, f2⟩ := hr
  have hz1 : w.heap.size < w1.heap.size := by have := hb1.size; simp at this; omega
  go_wp2
  rw [rounds_succ]
  go_wp2_with fail
  refine (later1 _ _ _ _ _ ⟨c0, c1, c2, f1, f2⟩ (by assumption) (by omega) (by omega) (by omega)).mono ?_
  rw [hmore2]
  rintro e w2 ⟨rfl, hr2, hb2⟩
  rw [E2.out] at hr2
  clear c0 c1 c2 f1 f2
  obtain ⟨c0, c1, c2, f1, f2⟩ := hr2
  have hz2 : w.heap.size < w2.heap.size := by have := hb2.size; omega
  go_wp2
  rw [rounds_succ]
  go_wp2
  go_region_held3 (fun w' => w'.cell? ⟨w.heap.size, 1, none⟩ = some (.int .i64 (7 + x1))) (first | go_keep | exact keep_cell hbN (by simp; omega) (by assumption)) ((go_at_call 67; refine (numWrite_ok _ _ _ _ HN.out).mono ?_; rintro e wN ⟨rfl, hbN⟩))
  go_wp2
  go_ret3
  exact ⟨rfl, (((Below.alloc (Below.refl _ _) (Nat.le_refl _) _).trans hb1).trans hb2).drew.trans (hbN.mono (show w.heap.size ≤ w2.heap.size by omega))⟩

set_option maxRecDepth 100000 in
set_option maxHeartbeats 1000000 in
theorem irD3 (s : ByteArray) (x0 x1 m : Int) (w : World) (hs : 0 < s.size) (hm : s.size ≤ maxLen) (hmin : (if 3 < (s.size : Int) then (3 : Int) else (s.size : Int)) = m) (q0 : ((s[0]'hs).toNat : Int) = x0) (a0 : 0 ≤ x0) (a1 : x0 ≤ 255) (hge : 7 ≤ x0 % 8) (hs1 : 1 < s.size) (q1 : ((s[1]'hs1).toNat : Int) = x1) (b0 : 128 ≤ x1) (b1 : x1 ≤ 255) (m1 : 2 ≤ m) (m2 : m ≤ 2) :
    Calls Tryz.prog 43 #[.string s, .int .i64 3] w fun e w' => e = .returned (.tuple #[.int .i64 0, .int .i64 0, .bool false]) ∧ Below w.heap.size w w' := by
  have hmf : ∀ (fn : Fn) (first cap : Array Value) (w : World), (Instr.makeFunc fn first cap).run Tryz.prog w = .ok (.func fn first cap) w := fun _ _ _ _ => rfl
  have hsz : ((s.size : Int) == 0) = false := by simp; exact fun h => by rw [h] at hs; simp at hs
  unfold maxLen at hm
  have hmore : (x0 % 8 == 7) = true := by simp; omega
  have hmore2 : decide (128 ≤ x1) = true := by simp; omega
  have E2 : Hid (7 + x1 % 128 = 7 + (x1 - 128)) := show 7 + x1 % 128 = 7 + (x1 - 128) by omega
  have b2 : 0 ≤ x1 := by omega
  go_enter Tryz.func43, Tryz.ntmps43
  go_wp2
  refine wp_loop_rounds 3 ?_
  rw [rounds_succ]
  go_wp2_with fail
  refine (first3 _ _ _ _ _ (rd_alloc _ _ _ _ _) (by assumption) (by assumption)).mono ?_
  rw [hmore]
  rintro e w1 ⟨rfl, hr, hb1⟩
  have e1 : x0 % 8 = 7 := by omega
  rw [e1] at hr
  clear e1
  obtain ⟨c0, c1, c2, f1, f2⟩ := hr
  have hz1 : w.heap.size < w1.heap.size := by have := hb1.size; simp at this; omega
  go_wp2
  rw [rounds_succ]
  go_wp2_with fail
  refine (later1 _ _ _ _ _ ⟨c0, c1, c2, f1, f2⟩ (by assumption) (by omega) (by omega) (by omega)).mono ?_
  rw [hmore2]
  rintro e w2 ⟨rfl, hr2, hb2⟩
  rw [E2.out] at hr2
  clear c0 c1 c2 f1 f2
  obtain ⟨c0, c1, c2, f1, f2⟩ := hr2
  have hz2 : w.heap.size < w2.heap.size := by have := hb2.size; omega
  go_wp2
  rw [rounds_succ]
  go_wp2
  go_quiet (fail)
  go_wp2
  go_ret3
  exact ⟨rfl, below_drewN (((Below.alloc (Below.refl _ _) (Nat.le_refl _) _).trans hb1).trans hb2) _⟩

set_option maxRecDepth 100000 in
set_option maxHeartbeats 1000000 in
theorem irE3 (s : ByteArray) (x0 x1 x2 m : Int) (w : World) (hs : 0 < s.size) (hm : s.size ≤ maxLen) (hmin : (if 3 < (s.size : Int) then (3 : Int) else (s.size : Int)) = m) (q0 : ((s[0]'hs).toNat : Int) = x0) (a0 : 0 ≤ x0) (a1 : x0 ≤ 255) (hge : 7 ≤ x0 % 8) (hs1 : 1 < s.size) (q1 : ((s[1]'hs1).toNat : Int) = x1) (b0 : 128 ≤ x1) (b1 : x1 ≤ 255) (hs2 : 2 < s.size) (q2 : ((s[2]'hs2).toNat : Int) = x2) (m1 : 3 ≤ m) (m2 : m ≤ 3) (d0 : 1 ≤ x2) (d1 : x2 < 128) (d2 : 7 + (x1 - 128) + 128 * x2 ≤ 9999) :
    Calls Tryz.prog 43 #[.string s, .int .i64 3] w fun e w' => e = .returned (.tuple #[.int .i64 (7 + (x1 - 128) + 128 * x2), .int .i64 3, .bool true]) ∧ Below w.heap.size w w' := by
  have hmf : ∀ (fn : Fn) (first cap : Array Value) (w : World), (Instr.makeFunc fn first cap).run Tryz.prog w = .ok (.func fn first cap) w := fun _ _ _ _ => rfl
  have hsz : ((s.size : Int) == 0) = false := by simp; exact fun h => by rw [h] at hs; simp at hs
  have hwr : IntKind.i64.wrap x0 = x0 := by rw [IntKind.wrap_i64]; omega
  unfold maxLen at hm
  have hmore : (x0 % 8 == 7) = true := by simp; omega
  have hmore2 : decide (128 ≤ x1) = true := by simp; omega
  have E2 : Hid (7 + x1 % 128 = 7 + (x1 - 128)) := show 7 + x1 % 128 = 7 + (x1 - 128) by omega
  have b2 : 0 ≤ x1 := by omega
  have hi1 : (3 : Int) ≤ (s.size : Int) := by omega
  have hmore3 : decide (128 ≤ x2) = false := by simp; omega
  have E3 : Hid (7 + (x1 - 128) + x2 % 128 * 128 = 7 + (x1 - 128) + 128 * x2) := show 7 + (x1 - 128) + x2 % 128 * 128 = 7 + (x1 - 128) + 128 * x2 by omega
  have d3 : 0 ≤ x2 := by omega
  have HN : Hid (nOk (7 + (x1 - 128) + 128 * x2) 3 (x0 / 8)) := show nOk (7 + (x1 - 128) + 128 * x2) 3 (x0 / 8) from ⟨by decide, by decide, by omega, by omega, by omega, by show x0 / 8 < 32; omega⟩
  have hcmp : ((s.extract 0 3).toList == (numS (7 + (x1 - 128) + 128 * x2) 3 (x0 / 8)).toList) = true := eqT (by
    rw [extract_take]
    unfold numS numL
    rw [pw3, if_neg (by omega), if_neg (by omega), show x0 / 8 * 8 + (8 - 1) = x0 by omega, show 128 + (7 + (x1 - 128) + 128 * x2 - (8 - 1)) % 128 = x1 by omega, show (7 + (x1 - 128) + 128 * x2 - (8 - 1)) / 128 = x2 by omega, take_three s hs hs1 hs2, q0, q1, q2])
  go_enter Tryz.func43, Tryz.ntmps43
  go_wp2
  refine wp_loop_rounds 4 ?_
  rw [rounds_succ]
  go_wp2_with fail
  refine (first3 _ _ _ _ _ (rd_alloc _ _ _ _ _) (by assumption) (by assumption)).mono ?_
  rw [hmore]
  rintro e w1 ⟨rfl, hr, hb1⟩
  have e1 : x0 % 8 = 7 := by omega
  rw [e1] at hr
  clear e1
  obtain ⟨c0, c1, c2, f1, f2⟩ := hr
  have hz1 : w.heap.size < w1.heap.size := by have := hb1.size; simp at this; omega
  go_wp2
  rw [rounds_succ]
  go_wp2_with fail
  refine (later1 _ _ _ _ _ ⟨c0, c1, c2, f1, f2⟩ (by assumption) (by omega) (by omega) (by omega)).mono ?_
  rw [hmore2]
  rintro e w2 ⟨rfl, hr2, hb2⟩
  rw [E2.out] at hr2
  clear c0 c1 c2 f1 f2
  obtain ⟨c0, c1, c2, f1, f2⟩ := hr2
  have hz2 : w.heap.size < w2.heap.size := by have := hb2.size; omega
  go_wp2
  rw [rounds_succ]
  go_wp2_with fail
  refine (later2 _ _ _ _ _ ⟨c0, c1, c2, f1, f2⟩ (by assumption) (by omega) (by omega) (by omega)).mono ?_
  rw [hmore3]
  rintro e w3 ⟨rfl, hr3, hb3⟩
  rw [E3.out] at hr3
  clear c0 c1 c2 f1 f2
  obtain ⟨c0, c1, c2, f1, f2⟩ := hr3
  have hz3 : w.heap.size < w3.heap.size := by have := hb3.size; omega
  go_wp2
  rw [rounds_succ]
  go_wp2
  go_region_held3 (fun w' => w'.cell? ⟨w.heap.size, 1, none⟩ = some (.int .i64 (7 + (x1 - 128) + 128 * x2))) (first | go_keep | exact keep_cell hbN (by simp; omega) (by assumption)) ((go_at_call 67; refine (numWrite_ok _ _ _ _ HN.out).mono ?_; rintro e wN ⟨rfl, hbN⟩))
  go_wp2
  go_ret3
  exact ⟨rfl, ((((Below.alloc (Below.refl _ _) (Nat.le_refl _) _).trans hb1).trans hb2).trans hb3).drew.trans (hbN.mono (show w.heap.size ≤ w3.heap.size by omega))⟩

set_option maxRecDepth 100000 in
set_option maxHeartbeats 1000000 in
theorem irF3 (s : ByteArray) (x0 x1 x2 m : Int) (w : World) (hs : 0 < s.size) (hm : s.size ≤ maxLen) (hmin : (if 3 < (s.size : Int) then (3 : Int) else (s.size : Int)) = m) (q0 : ((s[0]'hs).toNat : Int) = x0) (a0 : 0 ≤ x0) (a1 : x0 ≤ 255) (hge : 7 ≤ x0 % 8) (hs1 : 1 < s.size) (q1 : ((s[1]'hs1).toNat : Int) = x1) (b0 : 128 ≤ x1) (b1 : x1 ≤ 255) (hs2 : 2 < s.size) (q2 : ((s[2]'hs2).toNat : Int) = x2) (m1 : 3 ≤ m) (m2 : m ≤ 3) (d0 : 0 ≤ x2) (d1 : x2 ≤ 0) :
    Calls Tryz.prog 43 #[.string s, .int .i64 3] w fun e w' => e = .returned (.tuple #[.int .i64 0, .int .i64 0, .bool false]) ∧ Below w.heap.size w w' := by
  have hmf : ∀ (fn : Fn) (first cap : Array Value) (w : World), (Instr.makeFunc fn first cap).run Tryz.prog w = .ok (.func fn first cap) w := fun _ _ _ _ => rfl
  have hsz : ((s.size : Int) == 0) = false := by simp; exact fun h => by rw [h] at hs; simp at hs
  have hwr : IntKind.i64.wrap x0 = x0 := by rw [IntKind.wrap_i64]; omega
  unfold maxLen at hm
  have hmore : (x0 % 8 == 7) = true := by simp; omega
  have hmore2 : decide (128 ≤ x1) = true := by simp; omega
  have E2 : Hid (7 + x1 % 128 = 7 + (x1 - 128)) := show 7 + x1 % 128 = 7 + (x1 - 128) by omega
  have b2 : 0 ≤ x1 := by omega
  have hi1 : (3 : Int) ≤ (s.size : Int) := by omega
  have hmore3 : decide (128 ≤ x2) = false := by simp; omega
  have E3 : Hid (7 + (x1 - 128) + x2 % 128 * 128 = 7 + (x1 - 128) + 128 * x2) := show 7 + (x1 - 128) + x2 % 128 * 128 = 7 + (x1 - 128) + 128 * x2 by omega
  have HN : Hid (nOk (7 + (x1 - 128) + 128 * x2) 3 (x0 / 8)) := show nOk (7 + (x1 - 128) + 128 * x2) 3 (x0 / 8) from ⟨by decide, by decide, by omega, by omega, by omega, by show x0 / 8 < 32; omega⟩
  have hcmp : ((s.extract 0 3).toList == (numS (7 + (x1 - 128) + 128 * x2) 3 (x0 / 8)).toList) = false := neF (by
    rw [extract_take]
    unfold numS numL
    rw [pw3, if_neg (by omega), if_pos (by omega)]
    refine strOfNums_ne ?_
    rw [List.length_take, bytesL_length]
    simp
    omega)
  go_enter Tryz.func43, Tryz.ntmps43
  go_wp2
  refine wp_loop_rounds 4 ?_
  rw [rounds_succ]
  go_wp2_with fail
  refine (first3 _ _ _ _ _ (rd_alloc _ _ _ _ _) (by assumption) (by assumption)).mono ?_
  rw [hmore]
  rintro e w1 ⟨rfl, hr, hb1⟩
  have e1 : x0 % 8 = 7 := by omega
  rw [e1] at hr
  clear e1
  obtain ⟨c0, c1, c2, f1, f2⟩ := hr
  have hz1 : w.heap.size < w1.heap.size := by have := hb1.size; simp at this; omega
  go_wp2
  rw [rounds_succ]
  go_wp2_with fail
  refine (later1 _ _ _ _ _ ⟨c0, c1, c2, f1, f2⟩ (by assumption) (by omega) (by omega) (by omega)).mono ?_
  rw [hmore2]
  rintro e w2 ⟨rfl, hr2, hb2⟩
  rw [E2.out] at hr2
  clear c0 c1 c2 f1 f2
  obtain ⟨c0, c1, c2, f1, f2⟩ := hr2
  have hz2 : w.heap.size < w2.heap.size := by have := hb2.size; omega
  go_wp2
  rw [rounds_succ]
  go_wp2_with fail
  refine (later2 _ _ _ _ _ ⟨c0, c1, c2, f1, f2⟩ (by assumption) (by omega) (by omega) (by omega)).mono ?_
  rw [hmore3]
  rintro e w3 ⟨rfl, hr3, hb3⟩
  rw [E3.out] at hr3
  clear c0 c1 c2 f1 f2
  obtain ⟨c0, c1, c2, f1, f2⟩ := hr3
  have hz3 : w.heap.size < w3.heap.size := by have := hb3.size; omega
  go_wp2
  rw [rounds_succ]
  go_wp2
  go_region_held3 (fun w' => w'.cell? ⟨w.heap.size, 1, none⟩ = some (.int .i64 (7 + (x1 - 128) + 128 * x2))) (first | go_keep | exact keep_cell hbN (by simp; omega) (by assumption)) ((go_at_call 67; refine (numWrite_ok _ _ _ _ HN.out).mono ?_; rintro e wN ⟨rfl, hbN⟩))
  go_wp2
  go_ret3
  exact ⟨rfl, ((((Below.alloc (Below.refl _ _) (Nat.le_refl _) _).trans hb1).trans hb2).trans hb3).drew.trans (hbN.mono (show w.heap.size ≤ w3.heap.size by omega))⟩

set_option maxRecDepth 100000 in
set_option maxHeartbeats 1000000 in
theorem irG3 (s : ByteArray) (x0 x1 x2 m : Int) (w : World) (hs : 0 < s.size) (hm : s.size ≤ maxLen) (hmin : (if 3 < (s.size : Int) then (3 : Int) else (s.size : Int)) = m) (q0 : ((s[0]'hs).toNat : Int) = x0) (a0 : 0 ≤ x0) (a1 : x0 ≤ 255) (hge : 7 ≤ x0 % 8) (hs1 : 1 < s.size) (q1 : ((s[1]'hs1).toNat : Int) = x1) (b0 : 128 ≤ x1) (b1 : x1 ≤ 255) (hs2 : 2 < s.size) (q2 : ((s[2]'hs2).toNat : Int) = x2) (m1 : 3 ≤ m) (m2 : m ≤ 3) (d0 : 0 ≤ x2) (d1 : x2 < 128) (d2 : 9999 < 7 + (x1 - 128) + 128 * x2) :
    Calls Tryz.prog 43 #[.string s, .int .i64 3] w fun e w' => e = .returned (.tuple #[.int .i64 0, .int .i64 0, .bool false]) ∧ Below w.heap.size w w' := by
  have hmf : ∀ (fn : Fn) (first cap : Array Value) (w : World), (Instr.makeFunc fn first cap).run Tryz.prog w = .ok (.func fn first cap) w := fun _ _ _ _ => rfl
  have hsz : ((s.size : Int) == 0) = false := by simp; exact fun h => by rw [h] at hs; simp at hs
  have hwr : IntKind.i64.wrap x0 = x0 := by rw [IntKind.wrap_i64]; omega
  unfold maxLen at hm
  have hmore : (x0 % 8 == 7) = true := by simp; omega
  have hmore2 : decide (128 ≤ x1) = true := by simp; omega
  have E2 : Hid (7 + x1 % 128 = 7 + (x1 - 128)) := show 7 + x1 % 128 = 7 + (x1 - 128) by omega
  have b2 : 0 ≤ x1 := by omega
  have hi1 : (3 : Int) ≤ (s.size : Int) := by omega
  have hmore3 : decide (128 ≤ x2) = false := by simp; omega
  have E3 : Hid (7 + (x1 - 128) + x2 % 128 * 128 = 7 + (x1 - 128) + 128 * x2) := show 7 + (x1 - 128) + x2 % 128 * 128 = 7 + (x1 - 128) + 128 * x2 by omega
  have HN : Hid (¬ nOk (7 + (x1 - 128) + 128 * x2) 3 (x0 / 8)) := show ¬ nOk (7 + (x1 - 128) + 128 * x2) 3 (x0 / 8) from fun h => by have := h.2.2.2.1; omega
  have hcmp : (s.extract 0 3).toList.isEmpty = false := isEmpty_false (by rw [ByteArray.size_extract]; omega)
  go_enter Tryz.func43, Tryz.ntmps43
  go_wp2
  refine wp_loop_rounds 4 ?_
  rw [rounds_succ]
  go_wp2_with fail
  refine (first3 _ _ _ _ _ (rd_alloc _ _ _ _ _) (by assumption) (by assumption)).mono ?_
  rw [hmore]
  rintro e w1 ⟨rfl, hr, hb1⟩
  have e1 : x0 % 8 = 7 := by omega
  rw [e1] at hr
  clear e1
  obtain ⟨c0, c1, c2, f1, f2⟩ := hr
  have hz1 : w.heap.size < w1.heap.size := by have := hb1.size; simp at this; omega
  go_wp2
  rw [rounds_succ]
  go_wp2_with fail
  refine (later1 _ _ _ _ _ ⟨c0, c1, c2, f1, f2⟩ (by assumption) (by omega) (by omega) (by omega)).mono ?_
  rw [hmore2]
  rintro e w2 ⟨rfl, hr2, hb2⟩
  rw [E2.out] at hr2
  clear c0 c1 c2 f1 f2
  obtain ⟨c0, c1, c2, f1, f2⟩ := hr2
  have hz2 : w.heap.size < w2.heap.size := by have := hb2.size; omega
  go_wp2
  rw [rounds_succ]
  go_wp2_with fail
  refine (later2 _ _ _ _ _ ⟨c0, c1, c2, f1, f2⟩ (by assumption) (by omega) (by omega) (by omega)).mono ?_
  rw [hmore3]
  rintro e w3 ⟨rfl, hr3, hb3⟩
  rw [E3.out] at hr3
  clear c0 c1 c2 f1 f2
  obtain ⟨c0, c1, c2, f1, f2⟩ := hr3
  have hz3 : w.heap.size < w3.heap.size := by have := hb3.size; omega
  go_wp2
  rw [rounds_succ]
  go_wp2
  go_region_held3 (fun w' => w'.cell? ⟨w.heap.size, 1, none⟩ = some (.int .i64 (7 + (x1 - 128) + 128 * x2))) (first | go_keep | (subst hbN; go_keep)) ((go_at_call 67; refine (numWrite_bad _ _ _ _ HN.out).mono ?_; rintro e wN ⟨rfl, hbN⟩))
  go_wp2
  go_ret3
  exact ⟨rfl, ((((Below.alloc (Below.refl _ _) (Nat.le_refl _) _).trans hb1).trans hb2).trans hb3).drew⟩

set_option maxRecDepth 100000 in
set_option maxHeartbeats 1000000 in
theorem irH3 (s : ByteArray) (x0 x1 x2 m : Int) (w : World) (hs : 0 < s.size) (hm : s.size ≤ maxLen) (hmin : (if 3 < (s.size : Int) then (3 : Int) else (s.size : Int)) = m) (q0 : ((s[0]'hs).toNat : Int) = x0) (a0 : 0 ≤ x0) (a1 : x0 ≤ 255) (hge : 7 ≤ x0 % 8) (hs1 : 1 < s.size) (q1 : ((s[1]'hs1).toNat : Int) = x1) (b0 : 128 ≤ x1) (b1 : x1 ≤ 255) (hs2 : 2 < s.size) (q2 : ((s[2]'hs2).toNat : Int) = x2) (m1 : 3 ≤ m) (m2 : m ≤ 3) (d0 : 128 ≤ x2) (d1 : x2 ≤ 255) :
    Calls Tryz.prog 43 #[.string s, .int .i64 3] w fun e w' => e = .returned (.tuple #[.int .i64 0, .int .i64 0, .bool false]) ∧ Below w.heap.size w w' := by
  have hmf : ∀ (fn : Fn) (first cap : Array Value) (w : World), (Instr.makeFunc fn first cap).run Tryz.prog w = .ok (.func fn first cap) w := fun _ _ _ _ => rfl
  have hsz : ((s.size : Int) == 0) = false := by simp; exact fun h => by rw [h] at hs; simp at hs
  unfold maxLen at hm
  have hmore : (x0 % 8 == 7) = true := by simp; omega
  have hmore2 : decide (128 ≤ x1) = true := by simp; omega
  have E2 : Hid (7 + x1 % 128 = 7 + (x1 - 128)) := show 7 + x1 % 128 = 7 + (x1 - 128) by omega
  have b2 : 0 ≤ x1 := by omega
  have hi1 : (3 : Int) ≤ (s.size : Int) := by omega
  have hmore3 : decide (128 ≤ x2) = true := by simp; omega
  have d3 : 0 ≤ x2 := by omega
  have E3 : Hid (7 + (x1 - 128) + x2 % 128 * 128 = 7 + (x1 - 128) + (x2 - 128) * 128) := show 7 + (x1 - 128) + x2 % 128 * 128 = 7 + (x1 - 128) + (x2 - 128) * 128 by omega
  go_enter Tryz.func43, Tryz.ntmps43
  go_wp2
  refine wp_loop_rounds 4 ?_
  rw [rounds_succ]
  go_wp2_with fail
  refine (first3 _ _ _ _ _ (rd_alloc _ _ _ _ _) (by assumption) (by assumption)).mono ?_
  rw [hmore]
  rintro e w1 ⟨rfl, hr, hb1⟩
  have e1 : x0 % 8 = 7 := by omega
  rw [e1] at hr
  clear e1
  obtain ⟨c0, c1, c2, f1, f2⟩ := hr
  have hz1 : w.heap.size < w1.heap.size := by have := hb1.size; simp at this; omega
  go_wp2
  rw [rounds_succ]
  go_wp2_with fail
  refine (later1 _ _ _ _ _ ⟨c0, c1, c2, f1, f2⟩ (by assumption) (by omega) (by omega) (by omega)).mono ?_
  rw [hmore2]
  rintro e w2 ⟨rfl, hr2, hb2⟩
  rw [E2.out] at hr2
  clear c0 c1 c2 f1 f2
  obtain ⟨c0, c1, c2, f1, f2⟩ := hr2
  have hz2 : w.heap.size < w2.heap.size := by have := hb2.size; omega
  go_wp2
  rw [rounds_succ]
  go_wp2_with fail
  refine (later2 _ _ _ _ _ ⟨c0, c1, c2, f1, f2⟩ (by assumption) (by omega) (by omega) (by omega)).mono ?_
  rw [hmore3]
  rintro e w3 ⟨rfl, hr3, hb3⟩
  rw [E3.out] at hr3
  clear c0 c1 c2 f1 f2
  obtain ⟨c0, c1, c2, f1, f2⟩ := hr3
  have hz3 : w.heap.size < w3.heap.size := by have := hb3.size; omega
  go_wp2
  rw [rounds_succ]
  go_wp2
  go_quiet (fail)
  go_wp2
  go_ret3
  exact ⟨rfl, below_drewN ((((Below.alloc (Below.refl _ _) (Nat.le_refl _) _).trans hb1).trans hb2).trans hb3) _⟩

theorem ir3 (s : ByteArray) (w : World) (hm : s.size ≤ maxLen) :
    Calls Tryz.prog 43 #[.string s, .int .i64 3] w fun e w' => e = .returned (tupV (rd 8 (bytesL s))) ∧ Below w.heap.size w w' := by
  obtain ⟨m, hmin, m3, mn, mo⟩ := min_bd (s.size : Int)
  have hlen := bytesL_length s
  match hl : bytesL s with
  | [] =>
    rw [hl] at hlen
    simp at hlen
    have hz : ((s.size : Int) == 0) = true := by rw [← hlen]; rfl
    clear hl hmin m3 mn mo hlen
    show Calls Tryz.prog 43 #[.string s, .int .i64 3] w fun e w' => e = .returned (.tuple #[.int .i64 0, .int .i64 0, .bool false]) ∧ Below w.heap.size w w'
    unfold maxLen at hm
    go_enter Tryz.func43, Tryz.ntmps43
    go_wp2
    go_ret3
    exact ⟨rfl, Below.refl _ _⟩
  | [a] =>
    rw [hl] at hlen
    simp at hlen
    obtain ⟨hk, q, x0, x1⟩ := of_cons (k := 0) (x := a) hl rfl
    rw [rd1]
    by_cases h : a % 8 < 8 - 1
    · rw [if_pos h]; exact irA3 s a m w hk hm hmin q x0 x1 h (by omega)
    · rw [if_neg h]; exact irB3 s a m w hk hm hmin q x0 x1 (by omega) hlen.symm (by omega) (by omega)
  | [a, c] =>
    rw [hl] at hlen
    simp at hlen
    obtain ⟨hk, q, x0, x1⟩ := of_cons (k := 0) (x := a) hl rfl
    obtain ⟨hk1, q1, y0, y1⟩ := of_cons (k := 1) (x := c) hl rfl
    rw [rd2]
    by_cases h : a % 8 < 8 - 1
    · rw [if_pos h]; exact irA3 s a m w hk hm hmin q x0 x1 h (by omega)
    · rw [if_neg h]
      by_cases h' : c < 128
      · rw [if_pos h']; exact irC3 s a c m w hk hm hmin q x0 x1 (by omega) hk1 q1 y0 h' (by omega)
      · rw [if_neg h']; exact irD3 s a c m w hk hm hmin q x0 x1 (by omega) hk1 q1 (by omega) y1 (by omega) (by omega)
  | a :: c :: d :: t =>
    rw [hl] at hlen
    simp at hlen
    obtain ⟨hk, q, x0, x1⟩ := of_cons (k := 0) (x := a) hl rfl
    obtain ⟨hk1, q1, y0, y1⟩ := of_cons (k := 1) (x := c) hl rfl
    obtain ⟨hk2, q2, z0, z1⟩ := of_cons (k := 2) (x := d) hl rfl
    rw [rd3]
    by_cases h : a % 8 < 8 - 1
    · rw [if_pos h]; exact irA3 s a m w hk hm hmin q x0 x1 h (by omega)
    · rw [if_neg h]
      by_cases h' : c < 128
      · rw [if_pos h']; exact irC3 s a c m w hk hm hmin q x0 x1 (by omega) hk1 q1 y0 h' (by omega)
      · rw [if_neg h']
        by_cases h1 : 128 ≤ d
        · rw [if_pos (.inl h1)]; exact irH3 s a c d m w hk hm hmin q x0 x1 (by omega) hk1 q1 (by omega) y1 hk2 q2 (by omega) (by omega) h1 z1
        · by_cases h2 : d = 0
          · rw [if_pos (.inr (.inl h2))]; exact irF3 s a c d m w hk hm hmin q x0 x1 (by omega) hk1 q1 (by omega) y1 hk2 q2 (by omega) (by omega) z0 (by omega)
          · by_cases h3 : 9999 < 8 - 1 + (c - 128) + 128 * d
            · rw [if_pos (.inr (.inr h3))]; exact irG3 s a c d m w hk hm hmin q x0 x1 (by omega) hk1 q1 (by omega) y1 hk2 q2 (by omega) (by omega) z0 (by omega) h3
            · rw [if_neg (by omega)]; exact irE3 s a c d m w hk hm hmin q x0 x1 (by omega) hk1 q1 (by omega) y1 hk2 q2 (by omega) (by omega) (by omega) (by omega) (by omega)
end Go.Proofs.YtbhoafiolalgaaaGreat
