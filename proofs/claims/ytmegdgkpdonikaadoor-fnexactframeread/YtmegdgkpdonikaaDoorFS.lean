import Derived.Test.YtmegdgkpdonikaaDoorFM
import Derived.Test.YtmegdgkpdonikaaDoorBA
namespace Go.Proofs.YtmegdgkpdonikaaDoor
open Go.RowKit
set_option linter.unusedVariables false

theorem ret_boolF {a b : Bool} (h : a = b) : Ending.returned (.bool a) = .returned (.bool b) := by rw [h]
theorem isEmptyT {s : ByteArray} (h : s.size = 0) : s.toList.isEmpty = true := by
  have : s = ⟨#[]⟩ := by
    apply ByteArray.ext
    exact Array.eq_empty_of_size_eq_zero h
  rw [this]; decide +kernel
theorem frOk_01 {k s : Int} {l : Bool} {b : ByteArray} (h : k = 0 ∨ k = 1) : frOk ⟨k, l, s, b⟩ = (strm s && decide (b.size ≤ 200)) := by unfold frOk; rw [if_pos h]
theorem frOk_3 {s : Int} {l : Bool} {b : ByteArray} : frOk ⟨3, l, s, b⟩ = (strm s && (!l && decide (b.size = 0))) := by unfold frOk; rw [if_neg (by show ¬ ((3 : Int) = 0 ∨ (3 : Int) = 1); decide), if_pos rfl]
theorem frOk_8 {s : Int} {l : Bool} {b : ByteArray} : frOk ⟨8, l, s, b⟩ = ((decide (s = 0) || strm s) && (!l && moreB b)) := by unfold frOk; rw [if_neg (by show ¬ ((8 : Int) = 0 ∨ (8 : Int) = 1); decide), if_neg (by show ¬ (8 : Int) = 3; decide), if_pos rfl]
theorem frOk_no {k s : Int} {l : Bool} {b : ByteArray} (h0 : ¬ k = 0) (h1 : ¬ k = 1) (h3 : ¬ k = 3) (h8 : ¬ k = 8) : frOk ⟨k, l, s, b⟩ = false := by
  unfold frOk
  rw [if_neg (by rintro (h | h) <;> contradiction), if_neg h3, if_neg h8]
theorem b0of_at {b : ByteArray} (h : 0 < b.size) : ((b[0]'h).toNat : Int) = b0of b := by
  rw [bytesL_at]
  unfold b0of
  rw [List.headD_eq_head?_getD, List.head?_eq_getElem?, List.getElem?_eq_getElem (by rw [bytesL_length]; exact h)]
  rfl
theorem b0of_bd (b : ByteArray) : 0 ≤ b0of b ∧ b0of b ≤ 255 := by
  unfold b0of
  cases h : bytesL b with
  | nil => decide
  | cons x t => exact bytesL_bd b x (by rw [h]; simp)

set_option maxRecDepth 100000 in
set_option maxHeartbeats 400000 in
theorem l6InF (n a b : Int) (w : World) :
    Calls Tryd.prog 32 #[.int .i64 n, .int .i64 a, .int .i64 b] w fun e w' => e = .returned (.bool (decide (a ≤ n) && decide (n ≤ b))) ∧ w' = w := by
  by_cases h1 : a ≤ n
  · by_cases h2 : n ≤ b
    · go_enter Tryd.func32, Tryd.ntmps32
      go_wp2
      go_ret
      exact ⟨ret_boolF (by first | (simp; done) | (simp; omega)), rfl⟩
    · have h2' : b < n := by omega
      go_enter Tryd.func32, Tryd.ntmps32
      go_wp2
      go_ret
      exact ⟨ret_boolF (by first | (simp; done) | (simp; omega)), rfl⟩
  · have h1' : n < a := by omega
    go_enter Tryd.func32, Tryd.ntmps32
    go_wp2
    go_ret
    exact ⟨ret_boolF (by first | (simp; done) | (simp; omega)), rfl⟩
theorem l6In_yes (n a b : Int) (w : World) (h : a ≤ n ∧ n ≤ b) : Calls Tryd.prog 32 #[.int .i64 n, .int .i64 a, .int .i64 b] w fun e w' => e = .returned (.bool true) ∧ w' = w := by
  have := l6InF n a b w
  rwa [decide_eq_true h.1, decide_eq_true h.2] at this
theorem l6In_no (n a b : Int) (w : World) (h : ¬ (a ≤ n ∧ n ≤ b)) : Calls Tryd.prog 32 #[.int .i64 n, .int .i64 a, .int .i64 b] w fun e w' => e = .returned (.bool false) ∧ w' = w := by
  have := l6InF n a b w
  rwa [show (decide (a ≤ n) && decide (n ≤ b)) = false by rw [← Bool.decide_and]; exact decide_eq_false h] at this

set_option maxRecDepth 100000 in
set_option maxHeartbeats 400000 in
theorem l12Stream_any (n : Int) (w : World) :
    Calls Tryd.prog 31 #[.int .i64 n] w fun e w' => e = .returned (.bool (strm n)) ∧ w' = w := by
  by_cases h : 1 ≤ n ∧ n ≤ 7
  · have hc := l6In_yes n 1 7
    rcases (by omega : n = 1 ∨ n = 2 ∨ n = 3 ∨ n = 4 ∨ n = 5 ∨ n = 6 ∨ n = 7) with rfl | rfl | rfl | rfl | rfl | rfl | rfl
    all_goals
      go_enter Tryd.func31, Tryd.ntmps31
      go_wp2_with (go_at_call 32; refine (hc _ h).mono ?_; rintro e w' ⟨rfl, rfl⟩)
      go_ret
      exact ⟨ret_boolF (by decide), rfl⟩
  · have hc := l6In_no n 1 7
    have hs : strm n = false := by unfold strm; exact decide_eq_false (by omega)
    rw [hs]
    clear hs
    go_enter Tryd.func31, Tryd.ntmps31
    go_wp2_with (go_at_call 32; refine (hc _ h).mono ?_; rintro e w' ⟨rfl, rfl⟩)
    go_ret
    exact ⟨rfl, rfl⟩

set_option maxRecDepth 100000 in
set_option maxHeartbeats 2000000 in
theorem specFrameOk (f : Fr) (w : World) (hb : f.b.size ≤ maxLen) :
    Calls Tryd.prog 20 #[f.val] w fun e w' => e = .returned (.bool (frOk f)) ∧ Below w.heap.size w w' := by
  obtain ⟨k, l, s, b⟩ := f
  unfold Fr.val
  unfold maxLen at hb
  dsimp only at hb ⊢
  have hst := fun w => l12Stream_any s w
  by_cases h0 : k = 0 ∨ k = 1
  · rw [frOk_01 h0]
    obtain ⟨T, hT⟩ : ∃ T, strm s = T := ⟨_, rfl⟩
    rw [hT] at hst ⊢
    clear hT
    by_cases hz : (b.size : Int) ≤ 200
    all_goals
      rcases h0 with rfl | rfl
      all_goals
        cases T
        all_goals
          go_enter Tryd.func20, Tryd.ntmps20
          go_wp2_with (go_at_call 31; refine (hst _).mono ?_; rintro e w' ⟨rfl, rfl⟩)
          go_ret
          exact ⟨ret_boolF (by first | rfl | (simp; omega) | simp), (Below.refl _ _).alloc (Nat.le_refl _) _⟩
  · by_cases h3 : k = 3
    · subst h3
      rw [frOk_3]
      obtain ⟨T, hT⟩ : ∃ T, strm s = T := ⟨_, rfl⟩
      rw [hT] at hst ⊢
      clear hT h0
      by_cases hz : b.size = 0
      · have he := isEmptyT hz
        rw [decide_eq_true hz]
        clear hz
        cases T <;> cases l
        all_goals
          go_enter Tryd.func20, Tryd.ntmps20
          go_wp2_with (go_at_call 31; refine (hst _).mono ?_; rintro e w' ⟨rfl, rfl⟩)
          go_ret
          exact ⟨ret_boolF (by first | rfl | simp), (Below.refl _ _).alloc (Nat.le_refl _) _⟩
      · have he := isEmpty_false (s := b) (by omega)
        rw [decide_eq_false hz]
        clear hz
        cases T <;> cases l
        all_goals
          go_enter Tryd.func20, Tryd.ntmps20
          go_wp2_with (go_at_call 31; refine (hst _).mono ?_; rintro e w' ⟨rfl, rfl⟩)
          go_ret
          exact ⟨ret_boolF (by first | rfl | simp), (Below.refl _ _).alloc (Nat.le_refl _) _⟩
    · by_cases h8 : k = 8
      · subst h8
        rw [frOk_8]
        obtain ⟨T, hT⟩ : ∃ T, strm s = T := ⟨_, rfl⟩
        have hT0 : s = 0 → T = false := by rintro rfl; rw [← hT]; decide
        rw [hT] at hst ⊢
        clear hT h0 h3
        by_cases hz : b.size = 1
        · have hz' : (b.size : Int) = 1 := by omega
          have hat := b0of_at (b := b) (by omega)
          have hbd := b0of_bd b
          by_cases hm : 1 ≤ b0of b ∧ b0of b ≤ 31
          · have hin := fun w => l6In_yes (b0of b) 1 31 w hm
            have hmo : moreB b = true := by unfold moreB; exact decide_eq_true ⟨hz, hm⟩
            rw [hmo]
            obtain ⟨x0, hx0⟩ : ∃ x, b0of b = x := ⟨_, rfl⟩
            rw [hx0] at hin hat hbd
            clear hmo hm hx0
            by_cases hs0 : s = 0
            · obtain rfl := hT0 hs0
              have hs0b : (s == 0) = true := by simp [hs0]
              rw [decide_eq_true hs0]
              cases l
              all_goals
                go_enter Tryd.func20, Tryd.ntmps20
                go_wp2_with (first | (go_at_call 31; refine (hst _).mono ?_; rintro e w' ⟨rfl, rfl⟩) | (go_at_call 32; refine (hin _).mono ?_; rintro e w' ⟨rfl, rfl⟩))
                go_ret
                exact ⟨ret_boolF (by first | rfl | simp), (Below.refl _ _).alloc (Nat.le_refl _) _⟩
            · have hs0b : (s == 0) = false := by simp [hs0]
              rw [decide_eq_false hs0]
              clear hT0
              cases T <;> cases l
              all_goals
                go_enter Tryd.func20, Tryd.ntmps20
                go_wp2_with (first | (go_at_call 31; refine (hst _).mono ?_; rintro e w' ⟨rfl, rfl⟩) | (go_at_call 32; refine (hin _).mono ?_; rintro e w' ⟨rfl, rfl⟩))
                go_ret
                exact ⟨ret_boolF (by first | rfl | simp), (Below.refl _ _).alloc (Nat.le_refl _) _⟩
          · have hin := fun w => l6In_no (b0of b) 1 31 w hm
            have hmo : moreB b = false := by unfold moreB; exact decide_eq_false (fun h => hm h.2)
            rw [hmo]
            obtain ⟨x0, hx0⟩ : ∃ x, b0of b = x := ⟨_, rfl⟩
            rw [hx0] at hin hat hbd
            clear hmo hm hx0
            by_cases hs0 : s = 0
            · obtain rfl := hT0 hs0
              have hs0b : (s == 0) = true := by simp [hs0]
              rw [decide_eq_true hs0]
              cases l
              all_goals
                go_enter Tryd.func20, Tryd.ntmps20
                go_wp2_with (first | (go_at_call 31; refine (hst _).mono ?_; rintro e w' ⟨rfl, rfl⟩) | (go_at_call 32; refine (hin _).mono ?_; rintro e w' ⟨rfl, rfl⟩))
                go_ret
                exact ⟨ret_boolF (by first | rfl | simp), (Below.refl _ _).alloc (Nat.le_refl _) _⟩
            · have hs0b : (s == 0) = false := by simp [hs0]
              rw [decide_eq_false hs0]
              clear hT0
              cases T <;> cases l
              all_goals
                go_enter Tryd.func20, Tryd.ntmps20
                go_wp2_with (first | (go_at_call 31; refine (hst _).mono ?_; rintro e w' ⟨rfl, rfl⟩) | (go_at_call 32; refine (hin _).mono ?_; rintro e w' ⟨rfl, rfl⟩))
                go_ret
                exact ⟨ret_boolF (by first | rfl | simp), (Below.refl _ _).alloc (Nat.le_refl _) _⟩
        · have hz' : ¬ (b.size : Int) = 1 := by omega
          have hzb : ((b.size : Int) == 1) = false := by simp; omega
          have hmo : moreB b = false := by unfold moreB; exact decide_eq_false (fun h => hz h.1)
          rw [hmo]
          clear hmo
          by_cases hs0 : s = 0
          · obtain rfl := hT0 hs0
            have hs0b : (s == 0) = true := by simp [hs0]
            rw [decide_eq_true hs0]
            cases l
            all_goals
              go_enter Tryd.func20, Tryd.ntmps20
              go_wp2_with (go_at_call 31; refine (hst _).mono ?_; rintro e w' ⟨rfl, rfl⟩)
              go_ret
              exact ⟨ret_boolF (by first | rfl | simp), (Below.refl _ _).alloc (Nat.le_refl _) _⟩
          · have hs0b : (s == 0) = false := by simp [hs0]
            rw [decide_eq_false hs0]
            clear hT0
            cases T <;> cases l
            all_goals
              go_enter Tryd.func20, Tryd.ntmps20
              go_wp2_with (go_at_call 31; refine (hst _).mono ?_; rintro e w' ⟨rfl, rfl⟩)
              go_ret
              exact ⟨ret_boolF (by first | rfl | simp), (Below.refl _ _).alloc (Nat.le_refl _) _⟩
      · rw [frOk_no (fun h => h0 (.inl h)) (fun h => h0 (.inr h)) h3 h8]
        have e0 : (k == 0) = false := by simp; omega
        have e1 : (k == 1) = false := by simp; omega
        have e3 : (k == 3) = false := by simp; omega
        have e8 : (k == 8) = false := by simp; omega
        clear hst h0 h3 h8
        go_enter Tryd.func20, Tryd.ntmps20
        go_wp2
        go_ret
        exact ⟨rfl, (Below.refl _ _).alloc (Nat.le_refl _) _⟩
end Go.Proofs.YtmegdgkpdonikaaDoor
