import Derived.Test.YtbhoafiolalgaaaGreatBA
namespace Go.Proofs.YtbhoafiolalgaaaGreat
open Go.RowKit
set_option linter.unusedVariables false

set_option maxRecDepth 100000 in
set_option maxHeartbeats 1000000 in
theorem srA5 (s : ByteArray) (x0 : Int) (w : World) (hs : 0 < s.size) (hm : s.size ≤ maxLen) (q0 : ((s[0]'hs).toNat : Int) = x0) (a0 : 0 ≤ x0) (a1 : x0 ≤ 255) (hlt : x0 % 32 < 31) :
    Calls Tryz.prog 57 #[.string s, .int .i64 5] w fun e w' => e = .returned (.tuple #[.int .i64 (x0 % 32), .int .i64 1, .bool true]) ∧ w' = w := by
  have hne := isEmpty_false hs
  unfold maxLen at hm
  go_enter Tryz.func57, Tryz.ntmps57
  go_wp2_with fail
  refine (l1Top_any _ _ (by decide) (by decide)).mono ?_
  rintro e w' ⟨rfl, rfl⟩
  rw [pw5]
  go_wp2
  all_goals
    go_ret3
    exact ⟨ret3 (by omega) (by omega), rfl⟩

set_option maxRecDepth 100000 in
set_option maxHeartbeats 1000000 in
theorem srB5 (s : ByteArray) (x0 : Int) (w : World) (hs : 0 < s.size) (hm : s.size ≤ maxLen) (q0 : ((s[0]'hs).toNat : Int) = x0) (a0 : 0 ≤ x0) (a1 : x0 ≤ 255) (hge : 31 ≤ x0 % 32) (h1 : (s.size : Int) ≤ 1) :
    Calls Tryz.prog 57 #[.string s, .int .i64 5] w fun e w' => e = .returned (.tuple #[.int .i64 0, .int .i64 0, .bool false]) ∧ w' = w := by
  have hne := isEmpty_false hs
  unfold maxLen at hm
  go_enter Tryz.func57, Tryz.ntmps57
  go_wp2_with fail
  refine (l1Top_any _ _ (by decide) (by decide)).mono ?_
  rintro e w' ⟨rfl, rfl⟩
  rw [pw5]
  go_wp2
  go_rounds 2
  all_goals
    go_ret3
    exact ⟨ret3 (by omega) (by omega), rfl⟩

set_option maxRecDepth 100000 in
set_option maxHeartbeats 1000000 in
theorem srC5 (s : ByteArray) (x0 x1 : Int) (w : World) (hs : 0 < s.size) (hm : s.size ≤ maxLen) (q0 : ((s[0]'hs).toNat : Int) = x0) (a0 : 0 ≤ x0) (a1 : x0 ≤ 255) (hge : 31 ≤ x0 % 32) (hs1 : 1 < s.size) (q1 : ((s[1]'hs1).toNat : Int) = x1) (b0 : 0 ≤ x1) (b1 : x1 < 128) :
    Calls Tryz.prog 57 #[.string s, .int .i64 5] w fun e w' => e = .returned (.tuple #[.int .i64 (31 + x1), .int .i64 2, .bool true]) ∧ w' = w := by
  have hne := isEmpty_false hs
  have hi1 : (1 : Int) < (s.size : Int) := by omega
  unfold maxLen at hm
  go_enter Tryz.func57, Tryz.ntmps57
  go_wp2_with fail
  refine (l1Top_any _ _ (by decide) (by decide)).mono ?_
  rintro e w' ⟨rfl, rfl⟩
  rw [pw5]
  go_wp2
  go_rounds 2
  all_goals
    go_ret3
    exact ⟨ret3 (by omega) (by omega), rfl⟩

set_option maxRecDepth 100000 in
set_option maxHeartbeats 1000000 in
theorem srD5 (s : ByteArray) (x0 x1 : Int) (w : World) (hs : 0 < s.size) (hm : s.size ≤ maxLen) (q0 : ((s[0]'hs).toNat : Int) = x0) (a0 : 0 ≤ x0) (a1 : x0 ≤ 255) (hge : 31 ≤ x0 % 32) (hs1 : 1 < s.size) (q1 : ((s[1]'hs1).toNat : Int) = x1) (b0 : 128 ≤ x1) (b1 : x1 ≤ 255) (h2 : (s.size : Int) ≤ 2) :
    Calls Tryz.prog 57 #[.string s, .int .i64 5] w fun e w' => e = .returned (.tuple #[.int .i64 0, .int .i64 0, .bool false]) ∧ w' = w := by
  have hne := isEmpty_false hs
  have hi1 : (1 : Int) < (s.size : Int) := by omega
  unfold maxLen at hm
  go_enter Tryz.func57, Tryz.ntmps57
  go_wp2_with fail
  refine (l1Top_any _ _ (by decide) (by decide)).mono ?_
  rintro e w' ⟨rfl, rfl⟩
  rw [pw5]
  go_wp2
  go_rounds 3
  all_goals
    go_ret3
    exact ⟨ret3 (by omega) (by omega), rfl⟩

set_option maxRecDepth 100000 in
set_option maxHeartbeats 1000000 in
theorem srE5 (s : ByteArray) (x0 x1 x2 : Int) (w : World) (hs : 0 < s.size) (hm : s.size ≤ maxLen) (q0 : ((s[0]'hs).toNat : Int) = x0) (a0 : 0 ≤ x0) (a1 : x0 ≤ 255) (hge : 31 ≤ x0 % 32) (hs1 : 1 < s.size) (q1 : ((s[1]'hs1).toNat : Int) = x1) (b0 : 128 ≤ x1) (b1 : x1 ≤ 255) (hs2 : 2 < s.size) (q2 : ((s[2]'hs2).toNat : Int) = x2) (d0 : 1 ≤ x2) (d1 : x2 < 128) (d2 : 31 + (x1 - 128) + 128 * x2 ≤ 9999) :
    Calls Tryz.prog 57 #[.string s, .int .i64 5] w fun e w' => e = .returned (.tuple #[.int .i64 (31 + (x1 - 128) + 128 * x2), .int .i64 3, .bool true]) ∧ w' = w := by
  have hne := isEmpty_false hs
  have hi1 : (1 : Int) < (s.size : Int) := by omega
  have hi2 : (2 : Int) < (s.size : Int) := by omega
  unfold maxLen at hm
  go_enter Tryz.func57, Tryz.ntmps57
  go_wp2_with fail
  refine (l1Top_any _ _ (by decide) (by decide)).mono ?_
  rintro e w' ⟨rfl, rfl⟩
  rw [pw5]
  go_wp2
  go_rounds 3
  all_goals
    go_ret3
    exact ⟨ret3 (by omega) (by omega), rfl⟩

set_option maxRecDepth 100000 in
set_option maxHeartbeats 1000000 in
theorem srF5 (s : ByteArray) (x0 x1 x2 : Int) (w : World) (hs : 0 < s.size) (hm : s.size ≤ maxLen) (q0 : ((s[0]'hs).toNat : Int) = x0) (a0 : 0 ≤ x0) (a1 : x0 ≤ 255) (hge : 31 ≤ x0 % 32) (hs1 : 1 < s.size) (q1 : ((s[1]'hs1).toNat : Int) = x1) (b0 : 128 ≤ x1) (b1 : x1 ≤ 255) (hs2 : 2 < s.size) (q2 : ((s[2]'hs2).toNat : Int) = x2) (d0 : 0 ≤ x2) (d1 : x2 ≤ 0) :
    Calls Tryz.prog 57 #[.string s, .int .i64 5] w fun e w' => e = .returned (.tuple #[.int .i64 0, .int .i64 0, .bool false]) ∧ w' = w := by
  have hne := isEmpty_false hs
  have hi1 : (1 : Int) < (s.size : Int) := by omega
  have hi2 : (2 : Int) < (s.size : Int) := by omega
  unfold maxLen at hm
  go_enter Tryz.func57, Tryz.ntmps57
  go_wp2_with fail
  refine (l1Top_any _ _ (by decide) (by decide)).mono ?_
  rintro e w' ⟨rfl, rfl⟩
  rw [pw5]
  go_wp2
  go_rounds 3
  all_goals
    go_ret3
    exact ⟨ret3 (by omega) (by omega), rfl⟩

set_option maxRecDepth 100000 in
set_option maxHeartbeats 1000000 in
theorem srG5 (s : ByteArray) (x0 x1 x2 : Int) (w : World) (hs : 0 < s.size) (hm : s.size ≤ maxLen) (q0 : ((s[0]'hs).toNat : Int) = x0) (a0 : 0 ≤ x0) (a1 : x0 ≤ 255) (hge : 31 ≤ x0 % 32) (hs1 : 1 < s.size) (q1 : ((s[1]'hs1).toNat : Int) = x1) (b0 : 128 ≤ x1) (b1 : x1 ≤ 255) (hs2 : 2 < s.size) (q2 : ((s[2]'hs2).toNat : Int) = x2) (d0 : 0 ≤ x2) (d1 : x2 < 128) (d2 : 9999 < 31 + (x1 - 128) + 128 * x2) :
    Calls Tryz.prog 57 #[.string s, .int .i64 5] w fun e w' => e = .returned (.tuple #[.int .i64 0, .int .i64 0, .bool false]) ∧ w' = w := by
  have hne := isEmpty_false hs
  have hi1 : (1 : Int) < (s.size : Int) := by omega
  have hi2 : (2 : Int) < (s.size : Int) := by omega
  unfold maxLen at hm
  go_enter Tryz.func57, Tryz.ntmps57
  go_wp2_with fail
  refine (l1Top_any _ _ (by decide) (by decide)).mono ?_
  rintro e w' ⟨rfl, rfl⟩
  rw [pw5]
  go_wp2
  go_rounds 3
  all_goals
    go_ret3
    exact ⟨ret3 (by omega) (by omega), rfl⟩

set_option maxRecDepth 100000 in
set_option maxHeartbeats 1000000 in
theorem srH5 (s : ByteArray) (x0 x1 x2 : Int) (w : World) (hs : 0 < s.size) (hm : s.size ≤ maxLen) (q0 : ((s[0]'hs).toNat : Int) = x0) (a0 : 0 ≤ x0) (a1 : x0 ≤ 255) (hge : 31 ≤ x0 % 32) (hs1 : 1 < s.size) (q1 : ((s[1]'hs1).toNat : Int) = x1) (b0 : 128 ≤ x1) (b1 : x1 ≤ 255) (hs2 : 2 < s.size) (q2 : ((s[2]'hs2).toNat : Int) = x2) (d0 : 128 ≤ x2) (d1 : x2 ≤ 255) (h3 : (s.size : Int) ≤ 3) :
    Calls Tryz.prog 57 #[.string s, .int .i64 5] w fun e w' => e = .returned (.tuple #[.int .i64 0, .int .i64 0, .bool false]) ∧ w' = w := by
  have hne := isEmpty_false hs
  have hi1 : (1 : Int) < (s.size : Int) := by omega
  have hi2 : (2 : Int) < (s.size : Int) := by omega
  unfold maxLen at hm
  go_enter Tryz.func57, Tryz.ntmps57
  go_wp2_with fail
  refine (l1Top_any _ _ (by decide) (by decide)).mono ?_
  rintro e w' ⟨rfl, rfl⟩
  rw [pw5]
  go_wp2
  go_rounds 4
  all_goals
    go_ret3
    exact ⟨ret3 (by omega) (by omega), rfl⟩

set_option maxRecDepth 100000 in
set_option maxHeartbeats 1000000 in
theorem srI5 (s : ByteArray) (x0 x1 x2 x3 : Int) (w : World) (hs : 0 < s.size) (hm : s.size ≤ maxLen) (q0 : ((s[0]'hs).toNat : Int) = x0) (a0 : 0 ≤ x0) (a1 : x0 ≤ 255) (hge : 31 ≤ x0 % 32) (hs1 : 1 < s.size) (q1 : ((s[1]'hs1).toNat : Int) = x1) (b0 : 128 ≤ x1) (b1 : x1 ≤ 255) (hs2 : 2 < s.size) (q2 : ((s[2]'hs2).toNat : Int) = x2) (d0 : 128 ≤ x2) (d1 : x2 ≤ 255) (hs3 : 3 < s.size) (q3 : ((s[3]'hs3).toNat : Int) = x3) (f0 : 0 ≤ x3) (f1 : x3 ≤ 255) :
    Calls Tryz.prog 57 #[.string s, .int .i64 5] w fun e w' => e = .returned (.tuple #[.int .i64 0, .int .i64 0, .bool false]) ∧ w' = w := by
  have hne := isEmpty_false hs
  have hi1 : (1 : Int) < (s.size : Int) := by omega
  have hi2 : (2 : Int) < (s.size : Int) := by omega
  have hi3 : (3 : Int) < (s.size : Int) := by omega
  unfold maxLen at hm
  go_enter Tryz.func57, Tryz.ntmps57
  go_wp2_with fail
  refine (l1Top_any _ _ (by decide) (by decide)).mono ?_
  rintro e w' ⟨rfl, rfl⟩
  rw [pw5]
  go_wp2
  go_rounds 5
  all_goals
    go_ret3
    exact ⟨ret3 (by omega) (by omega), rfl⟩

theorem sr5 (s : ByteArray) (w : World) (hm : s.size ≤ maxLen) :
    Calls Tryz.prog 57 #[.string s, .int .i64 5] w fun e w' => e = .returned (tupV (rd 32 (bytesL s))) ∧ w' = w := by
  have hlen := bytesL_length s
  match hl : bytesL s with
  | [] =>
    have hz : s.toList.isEmpty = true := by rw [ByteArray.toList_eq]; simp [bytesL] at hl; simp [hl]
    clear hl hlen
    show Calls Tryz.prog 57 #[.string s, .int .i64 5] w fun e w' => e = .returned (.tuple #[.int .i64 0, .int .i64 0, .bool false]) ∧ w' = w
    unfold maxLen at hm
    go_enter Tryz.func57, Tryz.ntmps57
    go_wp2
    go_ret3
    exact ⟨rfl, rfl⟩
  | [a] =>
    rw [hl] at hlen
    simp at hlen
    obtain ⟨hk, q, x0, x1⟩ := of_cons (k := 0) (x := a) hl rfl
    rw [rd1]
    by_cases h : a % 32 < 32 - 1
    · rw [if_pos h]; exact srA5 s a w hk hm q x0 x1 h
    · rw [if_neg h]; exact srB5 s a w hk hm q x0 x1 (by omega) (by omega)
  | [a, c] =>
    rw [hl] at hlen
    simp at hlen
    obtain ⟨hk, q, x0, x1⟩ := of_cons (k := 0) (x := a) hl rfl
    obtain ⟨hk1, q1, y0, y1⟩ := of_cons (k := 1) (x := c) hl rfl
    rw [rd2]
    by_cases h : a % 32 < 32 - 1
    · rw [if_pos h]; exact srA5 s a w hk hm q x0 x1 h
    · rw [if_neg h]
      by_cases h' : c < 128
      · rw [if_pos h']; exact srC5 s a c w hk hm q x0 x1 (by omega) hk1 q1 y0 h'
      · rw [if_neg h']; exact srD5 s a c w hk hm q x0 x1 (by omega) hk1 q1 (by omega) y1 (by omega)
  | a :: c :: d :: t =>
    rw [hl] at hlen
    simp at hlen
    obtain ⟨hk, q, x0, x1⟩ := of_cons (k := 0) (x := a) hl rfl
    obtain ⟨hk1, q1, y0, y1⟩ := of_cons (k := 1) (x := c) hl rfl
    obtain ⟨hk2, q2, z0, z1⟩ := of_cons (k := 2) (x := d) hl rfl
    rw [rd3]
    by_cases h : a % 32 < 32 - 1
    · rw [if_pos h]; exact srA5 s a w hk hm q x0 x1 h
    · rw [if_neg h]
      by_cases h' : c < 128
      · rw [if_pos h']; exact srC5 s a c w hk hm q x0 x1 (by omega) hk1 q1 y0 h'
      · rw [if_neg h']
        by_cases h1 : 128 ≤ d
        · rw [if_pos (.inl h1)]
          match t, hl, hlen with
          | [], hl, hlen =>
            simp at hlen
            exact srH5 s a c d w hk hm q x0 x1 (by omega) hk1 q1 (by omega) y1 hk2 q2 h1 z1 (by omega)
          | f :: u, hl, hlen =>
            obtain ⟨hk3, q3, u0, u1⟩ := of_cons (k := 3) (x := f) hl rfl
            exact srI5 s a c d f w hk hm q x0 x1 (by omega) hk1 q1 (by omega) y1 hk2 q2 h1 z1 hk3 q3 u0 u1
        · by_cases h2 : d = 0
          · rw [if_pos (.inr (.inl h2))]; exact srF5 s a c d w hk hm q x0 x1 (by omega) hk1 q1 (by omega) y1 hk2 q2 z0 (by omega)
          · by_cases h3 : 9999 < 32 - 1 + (c - 128) + 128 * d
            · rw [if_pos (.inr (.inr h3))]; exact srG5 s a c d w hk hm q x0 x1 (by omega) hk1 q1 (by omega) y1 hk2 q2 z0 (by omega) h3
            · rw [if_neg (by omega)]; exact srE5 s a c d w hk hm q x0 x1 (by omega) hk1 q1 (by omega) y1 hk2 q2 (by omega) (by omega) (by omega)
end Go.Proofs.YtbhoafiolalgaaaGreat

namespace Go.Proofs.YtbhoafiolalgaaaGreat
open Go.RowKit
set_option linter.unusedVariables false

set_option maxRecDepth 100000 in
set_option maxHeartbeats 1000000 in
theorem srA6 (s : ByteArray) (x0 : Int) (w : World) (hs : 0 < s.size) (hm : s.size ≤ maxLen) (q0 : ((s[0]'hs).toNat : Int) = x0) (a0 : 0 ≤ x0) (a1 : x0 ≤ 255) (hlt : x0 % 64 < 63) :
    Calls Tryz.prog 57 #[.string s, .int .i64 6] w fun e w' => e = .returned (.tuple #[.int .i64 (x0 % 64), .int .i64 1, .bool true]) ∧ w' = w := by
  have hne := isEmpty_false hs
  unfold maxLen at hm
  go_enter Tryz.func57, Tryz.ntmps57
  go_wp2_with fail
  refine (l1Top_any _ _ (by decide) (by decide)).mono ?_
  rintro e w' ⟨rfl, rfl⟩
  rw [pw6]
  go_wp2
  all_goals
    go_ret3
    exact ⟨ret3 (by omega) (by omega), rfl⟩

set_option maxRecDepth 100000 in
set_option maxHeartbeats 1000000 in
theorem srB6 (s : ByteArray) (x0 : Int) (w : World) (hs : 0 < s.size) (hm : s.size ≤ maxLen) (q0 : ((s[0]'hs).toNat : Int) = x0) (a0 : 0 ≤ x0) (a1 : x0 ≤ 255) (hge : 63 ≤ x0 % 64) (h1 : (s.size : Int) ≤ 1) :
    Calls Tryz.prog 57 #[.string s, .int .i64 6] w fun e w' => e = .returned (.tuple #[.int .i64 0, .int .i64 0, .bool false]) ∧ w' = w := by
  have hne := isEmpty_false hs
  unfold maxLen at hm
  go_enter Tryz.func57, Tryz.ntmps57
  go_wp2_with fail
  refine (l1Top_any _ _ (by decide) (by decide)).mono ?_
  rintro e w' ⟨rfl, rfl⟩
  rw [pw6]
  go_wp2
  go_rounds 2
  all_goals
    go_ret3
    exact ⟨ret3 (by omega) (by omega), rfl⟩

set_option maxRecDepth 100000 in
set_option maxHeartbeats 1000000 in
theorem srC6 (s : ByteArray) (x0 x1 : Int) (w : World) (hs : 0 < s.size) (hm : s.size ≤ maxLen) (q0 : ((s[0]'hs).toNat : Int) = x0) (a0 : 0 ≤ x0) (a1 : x0 ≤ 255) (hge : 63 ≤ x0 % 64) (hs1 : 1 < s.size) (q1 : ((s[1]'hs1).toNat : Int) = x1) (b0 : 0 ≤ x1) (b1 : x1 < 128) :
    Calls Tryz.prog 57 #[.string s, .int .i64 6] w fun e w' => e = .returned (.tuple #[.int .i64 (63 + x1), .int .i64 2, .bool true]) ∧ w' = w := by
  have hne := isEmpty_false hs
  have hi1 : (1 : Int) < (s.size : Int) := by omega
  unfold maxLen at hm
  go_enter Tryz.func57, Tryz.ntmps57
  go_wp2_with fail
  refine (l1Top_any _ _ (by decide) (by decide)).mono ?_
  rintro e w' ⟨rfl, rfl⟩
  rw [pw6]
  go_wp2
  go_rounds 2
  all_goals
    go_ret3
    exact ⟨ret3 (by omega) (by omega), rfl⟩

set_option maxRecDepth 100000 in
set_option maxHeartbeats 1000000 in
theorem srD6 (s : ByteArray) (x0 x1 : Int) (w : World) (hs : 0 < s.size) (hm : s.size ≤ maxLen) (q0 : ((s[0]'hs).toNat : Int) = x0) (a0 : 0 ≤ x0) (a1 : x0 ≤ 255) (hge : 63 ≤ x0 % 64) (hs1 : 1 < s.size) (q1 : ((s[1]'hs1).toNat : Int) = x1) (b0 : 128 ≤ x1) (b1 : x1 ≤ 255) (h2 : (s.size : Int) ≤ 2) :
    Calls Tryz.prog 57 #[.string s, .int .i64 6] w fun e w' => e = .returned (.tuple #[.int .i64 0, .int .i64 0, .bool false]) ∧ w' = w := by
  have hne := isEmpty_false hs
  have hi1 : (1 : Int) < (s.size : Int) := by omega
  unfold maxLen at hm
  go_enter Tryz.func57, Tryz.ntmps57
  go_wp2_with fail
  refine (l1Top_any _ _ (by decide) (by decide)).mono ?_
  rintro e w' ⟨rfl, rfl⟩
  rw [pw6]
  go_wp2
  go_rounds 3
  all_goals
    go_ret3
    exact ⟨ret3 (by omega) (by omega), rfl⟩

set_option maxRecDepth 100000 in
set_option maxHeartbeats 1000000 in
theorem srE6 (s : ByteArray) (x0 x1 x2 : Int) (w : World) (hs : 0 < s.size) (hm : s.size ≤ maxLen) (q0 : ((s[0]'hs).toNat : Int) = x0) (a0 : 0 ≤ x0) (a1 : x0 ≤ 255) (hge : 63 ≤ x0 % 64) (hs1 : 1 < s.size) (q1 : ((s[1]'hs1).toNat : Int) = x1) (b0 : 128 ≤ x1) (b1 : x1 ≤ 255) (hs2 : 2 < s.size) (q2 : ((s[2]'hs2).toNat : Int) = x2) (d0 : 1 ≤ x2) (d1 : x2 < 128) (d2 : 63 + (x1 - 128) + 128 * x2 ≤ 9999) :
    Calls Tryz.prog 57 #[.string s, .int .i64 6] w fun e w' => e = .returned (.tuple #[.int .i64 (63 + (x1 - 128) + 128 * x2), .int .i64 3, .bool true]) ∧ w' = w := by
  have hne := isEmpty_false hs
  have hi1 : (1 : Int) < (s.size : Int) := by omega
  have hi2 : (2 : Int) < (s.size : Int) := by omega
  unfold maxLen at hm
  go_enter Tryz.func57, Tryz.ntmps57
  go_wp2_with fail
  refine (l1Top_any _ _ (by decide) (by decide)).mono ?_
  rintro e w' ⟨rfl, rfl⟩
  rw [pw6]
  go_wp2
  go_rounds 3
  all_goals
    go_ret3
    exact ⟨ret3 (by omega) (by omega), rfl⟩

set_option maxRecDepth 100000 in
set_option maxHeartbeats 1000000 in
theorem srF6 (s : ByteArray) (x0 x1 x2 : Int) (w : World) (hs : 0 < s.size) (hm : s.size ≤ maxLen) (q0 : ((s[0]'hs).toNat : Int) = x0) (a0 : 0 ≤ x0) (a1 : x0 ≤ 255) (hge : 63 ≤ x0 % 64) (hs1 : 1 < s.size) (q1 : ((s[1]'hs1).toNat : Int) = x1) (b0 : 128 ≤ x1) (b1 : x1 ≤ 255) (hs2 : 2 < s.size) (q2 : ((s[2]'hs2).toNat : Int) = x2) (d0 : 0 ≤ x2) (d1 : x2 ≤ 0) :
    Calls Tryz.prog 57 #[.string s, .int .i64 6] w fun e w' => e = .returned (.tuple #[.int .i64 0, .int .i64 0, .bool false]) ∧ w' = w := by
  have hne := isEmpty_false hs
  have hi1 : (1 : Int) < (s.size : Int) := by omega
  have hi2 : (2 : Int) < (s.size : Int) := by omega
  unfold maxLen at hm
  go_enter Tryz.func57, Tryz.ntmps57
  go_wp2_with fail
  refine (l1Top_any _ _ (by decide) (by decide)).mono ?_
  rintro e w' ⟨rfl, rfl⟩
  rw [pw6]
  go_wp2
  go_rounds 3
  all_goals
    go_ret3
    exact ⟨ret3 (by omega) (by omega), rfl⟩

set_option maxRecDepth 100000 in
set_option maxHeartbeats 1000000 in
theorem srG6 (s : ByteArray) (x0 x1 x2 : Int) (w : World) (hs : 0 < s.size) (hm : s.size ≤ maxLen) (q0 : ((s[0]'hs).toNat : Int) = x0) (a0 : 0 ≤ x0) (a1 : x0 ≤ 255) (hge : 63 ≤ x0 % 64) (hs1 : 1 < s.size) (q1 : ((s[1]'hs1).toNat : Int) = x1) (b0 : 128 ≤ x1) (b1 : x1 ≤ 255) (hs2 : 2 < s.size) (q2 : ((s[2]'hs2).toNat : Int) = x2) (d0 : 0 ≤ x2) (d1 : x2 < 128) (d2 : 9999 < 63 + (x1 - 128) + 128 * x2) :
    Calls Tryz.prog 57 #[.string s, .int .i64 6] w fun e w' => e = .returned (.tuple #[.int .i64 0, .int .i64 0, .bool false]) ∧ w' = w := by
  have hne := isEmpty_false hs
  have hi1 : (1 : Int) < (s.size : Int) := by omega
  have hi2 : (2 : Int) < (s.size : Int) := by omega
  unfold maxLen at hm
  go_enter Tryz.func57, Tryz.ntmps57
  go_wp2_with fail
  refine (l1Top_any _ _ (by decide) (by decide)).mono ?_
  rintro e w' ⟨rfl, rfl⟩
  rw [pw6]
  go_wp2
  go_rounds 3
  all_goals
    go_ret3
    exact ⟨ret3 (by omega) (by omega), rfl⟩

set_option maxRecDepth 100000 in
set_option maxHeartbeats 1000000 in
theorem srH6 (s : ByteArray) (x0 x1 x2 : Int) (w : World) (hs : 0 < s.size) (hm : s.size ≤ maxLen) (q0 : ((s[0]'hs).toNat : Int) = x0) (a0 : 0 ≤ x0) (a1 : x0 ≤ 255) (hge : 63 ≤ x0 % 64) (hs1 : 1 < s.size) (q1 : ((s[1]'hs1).toNat : Int) = x1) (b0 : 128 ≤ x1) (b1 : x1 ≤ 255) (hs2 : 2 < s.size) (q2 : ((s[2]'hs2).toNat : Int) = x2) (d0 : 128 ≤ x2) (d1 : x2 ≤ 255) (h3 : (s.size : Int) ≤ 3) :
    Calls Tryz.prog 57 #[.string s, .int .i64 6] w fun e w' => e = .returned (.tuple #[.int .i64 0, .int .i64 0, .bool false]) ∧ w' = w := by
  have hne := isEmpty_false hs
  have hi1 : (1 : Int) < (s.size : Int) := by omega
  have hi2 : (2 : Int) < (s.size : Int) := by omega
  unfold maxLen at hm
  go_enter Tryz.func57, Tryz.ntmps57
  go_wp2_with fail
  refine (l1Top_any _ _ (by decide) (by decide)).mono ?_
  rintro e w' ⟨rfl, rfl⟩
  rw [pw6]
  go_wp2
  go_rounds 4
  all_goals
    go_ret3
    exact ⟨ret3 (by omega) (by omega), rfl⟩

set_option maxRecDepth 100000 in
set_option maxHeartbeats 1000000 in
theorem srI6 (s : ByteArray) (x0 x1 x2 x3 : Int) (w : World) (hs : 0 < s.size) (hm : s.size ≤ maxLen) (q0 : ((s[0]'hs).toNat : Int) = x0) (a0 : 0 ≤ x0) (a1 : x0 ≤ 255) (hge : 63 ≤ x0 % 64) (hs1 : 1 < s.size) (q1 : ((s[1]'hs1).toNat : Int) = x1) (b0 : 128 ≤ x1) (b1 : x1 ≤ 255) (hs2 : 2 < s.size) (q2 : ((s[2]'hs2).toNat : Int) = x2) (d0 : 128 ≤ x2) (d1 : x2 ≤ 255) (hs3 : 3 < s.size) (q3 : ((s[3]'hs3).toNat : Int) = x3) (f0 : 0 ≤ x3) (f1 : x3 ≤ 255) :
    Calls Tryz.prog 57 #[.string s, .int .i64 6] w fun e w' => e = .returned (.tuple #[.int .i64 0, .int .i64 0, .bool false]) ∧ w' = w := by
  have hne := isEmpty_false hs
  have hi1 : (1 : Int) < (s.size : Int) := by omega
  have hi2 : (2 : Int) < (s.size : Int) := by omega
  have hi3 : (3 : Int) < (s.size : Int) := by omega
  unfold maxLen at hm
  go_enter Tryz.func57, Tryz.ntmps57
  go_wp2_with fail
  refine (l1Top_any _ _ (by decide) (by decide)).mono ?_
  rintro e w' ⟨rfl, rfl⟩
  rw [pw6]
  go_wp2
  go_rounds 5
  all_goals
    go_ret3
    exact ⟨ret3 (by omega) (by omega), rfl⟩

theorem sr6 (s : ByteArray) (w : World) (hm : s.size ≤ maxLen) :
    Calls Tryz.prog 57 #[.string s, .int .i64 6] w fun e w' => e = .returned (tupV (rd 64 (bytesL s))) ∧ w' = w := by
  have hlen := bytesL_length s
  match hl : bytesL s with
  | [] =>
    have hz : s.toList.isEmpty = true := by rw [ByteArray.toList_eq]; simp [bytesL] at hl; simp [hl]
    clear hl hlen
    show Calls Tryz.prog 57 #[.string s, .int .i64 6] w fun e w' => e = .returned (.tuple #[.int .i64 0, .int .i64 0, .bool false]) ∧ w' = w
    unfold maxLen at hm
    go_enter Tryz.func57, Tryz.ntmps57
    go_wp2
    go_ret3
    exact ⟨rfl, rfl⟩
  | [a] =>
    rw [hl] at hlen
    simp at hlen
    obtain ⟨hk, q, x0, x1⟩ := of_cons (k := 0) (x := a) hl rfl
    rw [rd1]
    by_cases h : a % 64 < 64 - 1
    · rw [if_pos h]; exact srA6 s a w hk hm q x0 x1 h
    · rw [if_neg h]; exact srB6 s a w hk hm q x0 x1 (by omega) (by omega)
  | [a, c] =>
    rw [hl] at hlen
    simp at hlen
    obtain ⟨hk, q, x0, x1⟩ := of_cons (k := 0) (x := a) hl rfl
    obtain ⟨hk1, q1, y0, y1⟩ := of_cons (k := 1) (x := c) hl rfl
    rw [rd2]
    by_cases h : a % 64 < 64 - 1
    · rw [if_pos h]; exact srA6 s a w hk hm q x0 x1 h
    · rw [if_neg h]
      by_cases h' : c < 128
      · rw [if_pos h']; exact srC6 s a c w hk hm q x0 x1 (by omega) hk1 q1 y0 h'
      · rw [if_neg h']; exact srD6 s a c w hk hm q x0 x1 (by omega) hk1 q1 (by omega) y1 (by omega)
  | a :: c :: d :: t =>
    rw [hl] at hlen
    simp at hlen
    obtain ⟨hk, q, x0, x1⟩ := of_cons (k := 0) (x := a) hl rfl
    obtain ⟨hk1, q1, y0, y1⟩ := of_cons (k := 1) (x := c) hl rfl
    obtain ⟨hk2, q2, z0, z1⟩ := of_cons (k := 2) (x := d) hl rfl
    rw [rd3]
    by_cases h : a % 64 < 64 - 1
    · rw [if_pos h]; exact srA6 s a w hk hm q x0 x1 h
    · rw [if_neg h]
      by_cases h' : c < 128
      · rw [if_pos h']; exact srC6 s a c w hk hm q x0 x1 (by omega) hk1 q1 y0 h'
      · rw [if_neg h']
        by_cases h1 : 128 ≤ d
        · rw [if_pos (.inl h1)]
          match t, hl, hlen with
          | [], hl, hlen =>
            simp at hlen
            exact srH6 s a c d w hk hm q x0 x1 (by omega) hk1 q1 (by omega) y1 hk2 q2 h1 z1 (by omega)
          | f :: u, hl, hlen =>
            obtain ⟨hk3, q3, u0, u1⟩ := of_cons (k := 3) (x := f) hl rfl
            exact srI6 s a c d f w hk hm q x0 x1 (by omega) hk1 q1 (by omega) y1 hk2 q2 h1 z1 hk3 q3 u0 u1
        · by_cases h2 : d = 0
          · rw [if_pos (.inr (.inl h2))]; exact srF6 s a c d w hk hm q x0 x1 (by omega) hk1 q1 (by omega) y1 hk2 q2 z0 (by omega)
          · by_cases h3 : 9999 < 64 - 1 + (c - 128) + 128 * d
            · rw [if_pos (.inr (.inr h3))]; exact srG6 s a c d w hk hm q x0 x1 (by omega) hk1 q1 (by omega) y1 hk2 q2 z0 (by omega) h3
            · rw [if_neg (by omega)]; exact srE6 s a c d w hk hm q x0 x1 (by omega) hk1 q1 (by omega) y1 hk2 q2 (by omega) (by omega) (by omega)
end Go.Proofs.YtbhoafiolalgaaaGreat
