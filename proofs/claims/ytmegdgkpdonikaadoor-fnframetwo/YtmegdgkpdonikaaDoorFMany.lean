import Derived.Test.YtmegdgkpdonikaaDoorFM
namespace Go.Proofs.YtmegdgkpdonikaaDoor
open Go.RowKit
set_option linter.unusedVariables false

theorem many_odd {m a b S : Nat} (h : a + m * b ≤ S) (hm : m % 2 = 1) : a + b + m / 2 * (b + b) ≤ S := by
  have e : m = 2 * (m / 2) + 1 := by omega
  have e2 : m * b = m / 2 * (b + b) + b := by
    conv => lhs; rw [e]
    rw [Nat.add_mul, Nat.one_mul, Nat.mul_add, Nat.mul_comm 2 (m / 2), Nat.mul_assoc, Nat.two_mul, Nat.mul_add]
  omega
theorem many_even {m a b S : Nat} (h : a + m * b ≤ S) (hm : m % 2 = 0) : a + m / 2 * (b + b) ≤ S := by
  have e : m = 2 * (m / 2) := by omega
  have e2 : m * b = m / 2 * (b + b) := by
    conv => lhs; rw [e]
    rw [Nat.mul_comm 2 (m / 2), Nat.mul_assoc, Nat.two_mul, Nat.mul_add]
  omega
theorem many_pos {m a b S : Nat} (h : a + m * b ≤ S) (hm : 0 < m) : a + b ≤ S := by
  have : b ≤ m * b := Nat.le_mul_of_pos_left b hm
  omega
set_option maxRecDepth 100000 in
set_option maxHeartbeats 1000000 in
theorem l6Many_any (s : ByteArray) (n : Nat) (w : World) (hn : n ≤ 1000) (hs : s.size ≤ 1000) :
    Calls Tryd.prog 30 #[.string s, .int .i64 (n : Int)] w fun e w' => ∃ t : ByteArray, e = .returned (.string t) ∧ t.size ≤ n * s.size ∧ w' = w := by
  have hS : n * s.size ≤ 1000000 := Nat.mul_le_mul hn hs
  obtain ⟨S, hSS⟩ : ∃ S, n * s.size = S := ⟨_, rfl⟩
  have HS : Hid (n * s.size = S) := hSS
  rw [hSS] at hS ⊢
  clear hSS
  go_enter Tryd.func30, Tryd.ntmps30
  go_wp2
  go_loop [0, 1, 5] (fun sv nv ov => ∃ (m : Nat) (u o : ByteArray), m ≤ 1000 ∧ sv = .string u ∧ nv = .int .i64 m ∧ ov = .string o ∧ o.size + m * u.size ≤ S ∧ u.size ≤ 2000000) (fun _ nv _ => (intOf nv).toNat)
  case atStart => exact ⟨n, s, ⟨#[]⟩, hn, rfl, rfl, rfl, by rw [HS.out]; show 0 + S ≤ S; omega, by omega⟩
  case round =>
    obtain ⟨m, u, o, hm, rfl, rfl, rfl, hq, hu⟩ := hrel
    by_cases h0 : 0 < m
    · have h0' : (0 : Int) < m := by omega
      have hp := many_pos hq h0
      have g1 : ¬ 9223372036854775807 < u.size + u.size := by omega
      have g2 : ¬ 9223372036854775807 < o.size + u.size := by omega
      by_cases hodd : m % 2 = 1
      · have ho := many_odd hq hodd
        have hm2 : (m : Int) % 2 = 1 := by omega
        have hm3 : (m : Int).tmod 2 = 1 := by rw [Int.tmod_eq_emod_of_nonneg (by omega)]; exact hm2
        have HQ : Hid _ := ho
        clear ho hq hodd
        go_wp2
        go_round
        case rel => exact ⟨m / 2, u ++ u, o ++ u, by omega, rfl, by go_num, rfl, by rw [ByteArray.size_append, ByteArray.size_append]; exact HQ.out, by rw [ByteArray.size_append]; omega⟩
        case measure => simp [intOf]; omega
      · have ho := many_even hq (by omega)
        have hm2 : (m : Int) % 2 = 0 := by omega
        have hm3 : (m : Int).tmod 2 = 0 := by rw [Int.tmod_eq_emod_of_nonneg (by omega)]; exact hm2
        have HQ : Hid _ := ho
        clear ho hq hodd
        go_wp2
        go_round
        case rel => exact ⟨m / 2, u ++ u, o, by omega, rfl, by go_num, rfl, by rw [ByteArray.size_append]; exact HQ.out, by rw [ByteArray.size_append]; omega⟩
        case measure => simp [intOf]; omega
    · have h0' : ¬ (0 : Int) < m := by omega
      have h1 : o.size ≤ S := by omega
      clear hq
      go_wp2
      go_ret
      exact ⟨o, rfl, h1, rfl⟩
end Go.Proofs.YtmegdgkpdonikaaDoor
