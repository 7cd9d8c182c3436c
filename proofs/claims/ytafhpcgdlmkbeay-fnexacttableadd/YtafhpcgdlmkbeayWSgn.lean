import Derived.Test.YtafhpcgdlmkbeayProg
import Derived.Test.YtafhpcgdlmkbeayWKit
namespace Go.Proofs.Ytafhpcgdlmkbeay
open Go.RowKit
set_option linter.unusedVariables false

set_option maxRecDepth 100000 in
set_option maxHeartbeats 400000 in
theorem l2Sign_any (c : Int) (w : World) (h0 : 0 ≤ c) (h1 : c ≤ 255) :
    Calls Try.prog 59 #[.int .u8 c] w fun e w' => e = .returned (.int .i64 (sgn c)) ∧ w' = w := by
  go_enter Try.func59, Try.ntmps59
  go_wp2
  go_loop [3] (fun i => ∃ k : Nat, k ≤ 39 ∧ i = .int .i64 k ∧ ∀ j, j < k → WS.getD j 0 ≠ c) (fun i => 39 - (intOf i).toNat)
  case atStart => exact ⟨0, by omega, rfl, by intro j hj; omega⟩
  case round =>
    obtain ⟨k, hk, rfl, hall⟩ := hrel
    have HA : Hid (∀ j, j < k → WS.getD j 0 ≠ c) := hall
    clear hall
    by_cases hlt : k < 39
    · have hlt' : (k : Int) < 39 := by omega
      obtain ⟨x, hx⟩ : ∃ x, WS.getD k 0 = x := ⟨_, rfl⟩
      have hq := WS_at k hlt
      rw [hx] at hq
      have HX : Hid (WS.getD k 0 = x) := hx
      clear hx
      by_cases hxc : x = c
      · subst hxc
        go_wp2
        go_ret
        exact ⟨ret_int (by rw [← HX.out, sgn_at hlt]), rfl⟩
      · have hxc' : (x == c) = false := by simp [hxc]
        go_wp2
        go_round
        case rel =>
          refine ⟨k + 1, by omega, by go_num, ?_⟩
          intro j hj
          by_cases e : j = k
          · rw [e, HX.out]; exact hxc
          · exact HA.out j (by omega)
        case measure => simp [intOf]; omega
    · go_wp2
      go_ret
      exact ⟨ret_int (by rw [sgn_none (fun j hj => HA.out j (by omega))]), rfl⟩

theorem wOk_take {l : List Int} {k : Nat} (h : ∀ j, j < k → 0 ≤ sgn (l.getD j 0)) (hk : l.length ≤ k) : l.all (fun c => decide (0 ≤ sgn c)) = true := by
  rw [List.all_eq_true]
  intro x hx
  obtain ⟨i, hi, rfl⟩ := List.getElem_of_mem hx
  have := h i (by omega)
  simpa [List.getD, hi] using this
theorem wOk_no {l : List Int} {k : Nat} (hk : k < l.length) (h : sgn (l.getD k 0) < 0) : wOk l = false := by
  unfold wOk
  have : l.all (fun c => decide (0 ≤ sgn c)) = false := by
    rw [List.all_eq_false]
    refine ⟨l[k], List.getElem_mem hk, ?_⟩
    have e : l.getD k 0 = l[k] := by simp [List.getD, hk]
    rw [e] at h
    simp; omega
  rw [this]; rfl
theorem ret_bool' {a b : Bool} (h : a = b) : Ending.returned (.bool a) = .returned (.bool b) := by rw [h]

set_option maxRecDepth 100000 in
set_option maxHeartbeats 400000 in
theorem specWordOk (s : ByteArray) (w : World) (hm : s.size ≤ maxLen) :
    Calls Try.prog 46 #[.string s] w fun e w' => e = .returned (.bool (wOk (bytesL s))) ∧ w' = w := by
  unfold maxLen at hm
  go_enter Try.func46, Try.ntmps46
  go_wp2
  go_loop [3] (fun i => ∃ k : Nat, k ≤ s.size ∧ i = .int .i64 k ∧ ∀ j, j < k → 0 ≤ sgn ((bytesL s).getD j 0)) (fun i => s.size - (intOf i).toNat)
  case atStart => exact ⟨0, by omega, rfl, by intro j hj; omega⟩
  case round =>
    obtain ⟨k, hk, rfl, hall⟩ := hrel
    have HA : Hid (∀ j, j < k → 0 ≤ sgn ((bytesL s).getD j 0)) := hall
    clear hall
    by_cases hlt : k < s.size
    · have hlt' : (k : Int) < s.size := by omega
      obtain ⟨x, hx⟩ : ∃ x, (bytesL s).getD k 0 = x := ⟨_, rfl⟩
      have hkl : k < (bytesL s).length := by rw [bytesL_length]; exact hlt
      have hq : ((s[k]'hlt).toNat : Int) = x := by rw [bytesL_at, ← hx]; simp [List.getD, hkl]
      have hxb := bytesL_bd s x (by rw [← hx]; simp [List.getD, hkl])
      obtain ⟨x0, x1⟩ := hxb
      have HX : Hid ((bytesL s).getD k 0 = x) := hx
      clear hx hkl
      have g1 := sgn_ge x
      have g2 := sgn_lt x
      go_wp2_with fail
      refine (l2Sign_any _ _ x0 x1).mono ?_
      rintro e w' ⟨rfl, rfl⟩
      by_cases hs : sgn x < 0
      · go_wp2
        go_ret
        exact ⟨ret_bool' (wOk_no (k := k) (by rw [bytesL_length]; exact hlt) (by rw [HX.out]; exact hs)).symm, rfl⟩
      · go_wp2
        go_round
        case rel =>
          refine ⟨k + 1, by omega, by go_num, ?_⟩
          intro j hj
          by_cases e : j = k
          · rw [e, HX.out]; omega
          · exact HA.out j (by omega)
        case measure => simp [intOf]; omega
    · go_wp2
      go_ret
      refine ⟨ret_bool' ?_, rfl⟩
      unfold wOk
      rw [wOk_take (k := k) HA.out (by rw [bytesL_length]; omega), bytesL_length]
      simp; omega
end Go.Proofs.Ytafhpcgdlmkbeay
