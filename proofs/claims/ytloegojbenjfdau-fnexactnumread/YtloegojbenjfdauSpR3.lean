import Derived.Test.YtloegojbenjfdauNumS
namespace Go.Proofs.Ytloegojbenjfdau
open Go.RowKit
set_option linter.unusedVariables false

set_option maxHeartbeats 1000000 in
theorem srA3 (s : ByteArray) (x0 : Int) (w : World) (hs : 0 < s.size) (hm : s.size ≤ maxLen) (q0 : ((s[0]'hs).toNat : Int) = x0) (a0 : 0 ≤ x0) (a1 : x0 ≤ 255) (hlt : x0 % 8 < 7) :
    Calls Try.prog 14 #[.string s, .int .i64 3] w fun e w' => e = .returned (.tuple #[.int .i64 (x0 % 8), .int .i64 1, .bool true]) ∧ w' = w := by
  have hne := isEmpty_false hs
  unfold maxLen at hm
  go_enter Try.func14, Try.ntmps14
  go_wp2_with fail
  refine (l1Top_any _ _ (by decide) (by decide)).mono ?_
  rintro e w' ⟨rfl, rfl⟩
  rw [pw3]
  go_wp2
  all_goals
    go_ret3
    exact ⟨ret3 (by omega) (by omega), rfl⟩

set_option maxHeartbeats 1000000 in
theorem srB3 (s : ByteArray) (x0 : Int) (w : World) (hs : 0 < s.size) (hm : s.size ≤ maxLen) (q0 : ((s[0]'hs).toNat : Int) = x0) (a0 : 0 ≤ x0) (a1 : x0 ≤ 255) (hge : 7 ≤ x0 % 8) (h1 : (s.size : Int) ≤ 1) :
    Calls Try.prog 14 #[.string s, .int .i64 3] w fun e w' => e = .returned (.tuple #[.int .i64 0, .int .i64 0, .bool false]) ∧ w' = w := by
  have hne := isEmpty_false hs
  unfold maxLen at hm
  go_enter Try.func14, Try.ntmps14
  go_wp2_with fail
  refine (l1Top_any _ _ (by decide) (by decide)).mono ?_
  rintro e w' ⟨rfl, rfl⟩
  rw [pw3]
  go_wp2
  go_rounds 2
  all_goals
    go_ret3
    exact ⟨ret3 (by omega) (by omega), rfl⟩

set_option maxHeartbeats 1000000 in
theorem srC3 (s : ByteArray) (x0 x1 : Int) (w : World) (hs : 0 < s.size) (hm : s.size ≤ maxLen) (q0 : ((s[0]'hs).toNat : Int) = x0) (a0 : 0 ≤ x0) (a1 : x0 ≤ 255) (hge : 7 ≤ x0 % 8) (hs1 : 1 < s.size) (q1 : ((s[1]'hs1).toNat : Int) = x1) (b0 : 0 ≤ x1) (b1 : x1 < 128) :
    Calls Try.prog 14 #[.string s, .int .i64 3] w fun e w' => e = .returned (.tuple #[.int .i64 (7 + x1), .int .i64 2, .bool true]) ∧ w' = w := by
  have hne := isEmpty_false hs
  have hi1 : (1 : Int) < (s.size : Int) := by omega
  unfold maxLen at hm
  go_enter Try.func14, Try.ntmps14
  go_wp2_with fail
  refine (l1Top_any _ _ (by decide) (by decide)).mono ?_
  rintro e w' ⟨rfl, rfl⟩
  rw [pw3]
  go_wp2
  go_rounds 2
  all_goals
    go_ret3
    exact ⟨ret3 (by omega) (by omega), rfl⟩

set_option maxHeartbeats 1000000 in
theorem srD3 (s : ByteArray) (x0 x1 : Int) (w : World) (hs : 0 < s.size) (hm : s.size ≤ maxLen) (q0 : ((s[0]'hs).toNat : Int) = x0) (a0 : 0 ≤ x0) (a1 : x0 ≤ 255) (hge : 7 ≤ x0 % 8) (hs1 : 1 < s.size) (q1 : ((s[1]'hs1).toNat : Int) = x1) (b0 : 128 ≤ x1) (b1 : x1 ≤ 255) (h2 : (s.size : Int) ≤ 2) :
    Calls Try.prog 14 #[.string s, .int .i64 3] w fun e w' => e = .returned (.tuple #[.int .i64 0, .int .i64 0, .bool false]) ∧ w' = w := by
  have hne := isEmpty_false hs
  have hi1 : (1 : Int) < (s.size : Int) := by omega
  unfold maxLen at hm
  go_enter Try.func14, Try.ntmps14
  go_wp2_with fail
  refine (l1Top_any _ _ (by decide) (by decide)).mono ?_
  rintro e w' ⟨rfl, rfl⟩
  rw [pw3]
  go_wp2
  go_rounds 3
  all_goals
    go_ret3
    exact ⟨ret3 (by omega) (by omega), rfl⟩

set_option maxHeartbeats 1000000 in
theorem srE3 (s : ByteArray) (x0 x1 x2 : Int) (w : World) (hs : 0 < s.size) (hm : s.size ≤ maxLen) (q0 : ((s[0]'hs).toNat : Int) = x0) (a0 : 0 ≤ x0) (a1 : x0 ≤ 255) (hge : 7 ≤ x0 % 8) (hs1 : 1 < s.size) (q1 : ((s[1]'hs1).toNat : Int) = x1) (b0 : 128 ≤ x1) (b1 : x1 ≤ 255) (hs2 : 2 < s.size) (q2 : ((s[2]'hs2).toNat : Int) = x2) (d0 : 1 ≤ x2) (d1 : x2 < 128) (d2 : 7 + (x1 - 128) + 128 * x2 ≤ 9999) :
    Calls Try.prog 14 #[.string s, .int .i64 3] w fun e w' => e = .returned (.tuple #[.int .i64 (7 + (x1 - 128) + 128 * x2), .int .i64 3, .bool true]) ∧ w' = w := by
  have hne := isEmpty_false hs
  have hi1 : (1 : Int) < (s.size : Int) := by omega
  have hi2 : (2 : Int) < (s.size : Int) := by omega
  unfold maxLen at hm
  go_enter Try.func14, Try.ntmps14
  go_wp2_with fail
  refine (l1Top_any _ _ (by decide) (by decide)).mono ?_
  rintro e w' ⟨rfl, rfl⟩
  rw [pw3]
  go_wp2
  go_rounds 3
  all_goals
    go_ret3
    exact ⟨ret3 (by omega) (by omega), rfl⟩

set_option maxHeartbeats 1000000 in
theorem srF3 (s : ByteArray) (x0 x1 x2 : Int) (w : World) (hs : 0 < s.size) (hm : s.size ≤ maxLen) (q0 : ((s[0]'hs).toNat : Int) = x0) (a0 : 0 ≤ x0) (a1 : x0 ≤ 255) (hge : 7 ≤ x0 % 8) (hs1 : 1 < s.size) (q1 : ((s[1]'hs1).toNat : Int) = x1) (b0 : 128 ≤ x1) (b1 : x1 ≤ 255) (hs2 : 2 < s.size) (q2 : ((s[2]'hs2).toNat : Int) = x2) (d0 : 0 ≤ x2) (d1 : x2 ≤ 0) :
    Calls Try.prog 14 #[.string s, .int .i64 3] w fun e w' => e = .returned (.tuple #[.int .i64 0, .int .i64 0, .bool false]) ∧ w' = w := by
  have hne := isEmpty_false hs
  have hi1 : (1 : Int) < (s.size : Int) := by omega
  have hi2 : (2 : Int) < (s.size : Int) := by omega
  unfold maxLen at hm
  go_enter Try.func14, Try.ntmps14
  go_wp2_with fail
  refine (l1Top_any _ _ (by decide) (by decide)).mono ?_
  rintro e w' ⟨rfl, rfl⟩
  rw [pw3]
  go_wp2
  go_rounds 3
  all_goals
    go_ret3
    exact ⟨ret3 (by omega) (by omega), rfl⟩

set_option maxHeartbeats 1000000 in
theorem srG3 (s : ByteArray) (x0 x1 x2 : Int) (w : World) (hs : 0 < s.size) (hm : s.size ≤ maxLen) (q0 : ((s[0]'hs).toNat : Int) = x0) (a0 : 0 ≤ x0) (a1 : x0 ≤ 255) (hge : 7 ≤ x0 % 8) (hs1 : 1 < s.size) (q1 : ((s[1]'hs1).toNat : Int) = x1) (b0 : 128 ≤ x1) (b1 : x1 ≤ 255) (hs2 : 2 < s.size) (q2 : ((s[2]'hs2).toNat : Int) = x2) (d0 : 0 ≤ x2) (d1 : x2 < 128) (d2 : 9999 < 7 + (x1 - 128) + 128 * x2) :
    Calls Try.prog 14 #[.string s, .int .i64 3] w fun e w' => e = .returned (.tuple #[.int .i64 0, .int .i64 0, .bool false]) ∧ w' = w := by
  have hne := isEmpty_false hs
  have hi1 : (1 : Int) < (s.size : Int) := by omega
  have hi2 : (2 : Int) < (s.size : Int) := by omega
  unfold maxLen at hm
  go_enter Try.func14, Try.ntmps14
  go_wp2_with fail
  refine (l1Top_any _ _ (by decide) (by decide)).mono ?_
  rintro e w' ⟨rfl, rfl⟩
  rw [pw3]
  go_wp2
  go_rounds 3
  all_goals
    go_ret3
    exact ⟨ret3 (by omega) (by omega), rfl⟩

set_option maxHeartbeats 1000000 in
theorem srH3 (s : ByteArray) (x0 x1 x2 : Int) (w : World) (hs : 0 < s.size) (hm : s.size ≤ maxLen) (q0 : ((s[0]'hs).toNat : Int) = x0) (a0 : 0 ≤ x0) (a1 : x0 ≤ 255) (hge : 7 ≤ x0 % 8) (hs1 : 1 < s.size) (q1 : ((s[1]'hs1).toNat : Int) = x1) (b0 : 128 ≤ x1) (b1 : x1 ≤ 255) (hs2 : 2 < s.size) (q2 : ((s[2]'hs2).toNat : Int) = x2) (d0 : 128 ≤ x2) (d1 : x2 ≤ 255) (h3 : (s.size : Int) ≤ 3) :
    Calls Try.prog 14 #[.string s, .int .i64 3] w fun e w' => e = .returned (.tuple #[.int .i64 0, .int .i64 0, .bool false]) ∧ w' = w := by
  have hne := isEmpty_false hs
  have hi1 : (1 : Int) < (s.size : Int) := by omega
  have hi2 : (2 : Int) < (s.size : Int) := by omega
  unfold maxLen at hm
  go_enter Try.func14, Try.ntmps14
  go_wp2_with fail
  refine (l1Top_any _ _ (by decide) (by decide)).mono ?_
  rintro e w' ⟨rfl, rfl⟩
  rw [pw3]
  go_wp2
  go_rounds 4
  all_goals
    go_ret3
    exact ⟨ret3 (by omega) (by omega), rfl⟩

set_option maxHeartbeats 1000000 in
theorem srI3 (s : ByteArray) (x0 x1 x2 x3 : Int) (w : World) (hs : 0 < s.size) (hm : s.size ≤ maxLen) (q0 : ((s[0]'hs).toNat : Int) = x0) (a0 : 0 ≤ x0) (a1 : x0 ≤ 255) (hge : 7 ≤ x0 % 8) (hs1 : 1 < s.size) (q1 : ((s[1]'hs1).toNat : Int) = x1) (b0 : 128 ≤ x1) (b1 : x1 ≤ 255) (hs2 : 2 < s.size) (q2 : ((s[2]'hs2).toNat : Int) = x2) (d0 : 128 ≤ x2) (d1 : x2 ≤ 255) (hs3 : 3 < s.size) (q3 : ((s[3]'hs3).toNat : Int) = x3) (f0 : 0 ≤ x3) (f1 : x3 ≤ 255) :
    Calls Try.prog 14 #[.string s, .int .i64 3] w fun e w' => e = .returned (.tuple #[.int .i64 0, .int .i64 0, .bool false]) ∧ w' = w := by
  have hne := isEmpty_false hs
  have hi1 : (1 : Int) < (s.size : Int) := by omega
  have hi2 : (2 : Int) < (s.size : Int) := by omega
  have hi3 : (3 : Int) < (s.size : Int) := by omega
  unfold maxLen at hm
  go_enter Try.func14, Try.ntmps14
  go_wp2_with fail
  refine (l1Top_any _ _ (by decide) (by decide)).mono ?_
  rintro e w' ⟨rfl, rfl⟩
  rw [pw3]
  go_wp2
  go_rounds 5
  all_goals
    go_ret3
    exact ⟨ret3 (by omega) (by omega), rfl⟩
end Go.Proofs.Ytloegojbenjfdau
