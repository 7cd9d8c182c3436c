import Derived.Test.YtdnajdobmlgmiaaCE
namespace Go.Proofs.Ytdnajdobmlgmiaa
open Go.RowKit
set_option linter.unusedVariables false

set_option maxRecDepth 100000 in
set_option maxHeartbeats 400000 in
theorem streamId_any (n : Int) (w : World) :
    Calls Try.prog 79 #[.int .i64 n] w fun e w' => e = .returned (.bool (strm n)) ∧ w' = w := by
  by_cases h : 1 ≤ n
  · by_cases h7 : n ≤ 7
    · rcases (by omega : n = 1 ∨ n = 2 ∨ n = 3 ∨ n = 4 ∨ n = 5 ∨ n = 6 ∨ n = 7) with rfl | rfl | rfl | rfl | rfl | rfl | rfl
      all_goals
        go_enter Try.func79, Try.ntmps79
        go_wp2
        go_ret
        exact ⟨ret_boolF (by decide), rfl⟩
    · have hs : strm n = false := by unfold strm; exact decide_eq_false (by omega)
      have h7' : 7 < n := by omega
      rw [hs]
      clear hs
      go_enter Try.func79, Try.ntmps79
      go_wp2
      go_ret
      exact ⟨rfl, rfl⟩
  · have hs : strm n = false := by unfold strm; exact decide_eq_false (by omega)
    have h' : n < 1 := by omega
    rw [hs]
    clear hs
    go_enter Try.func79, Try.ntmps79
    go_wp2
    go_ret
    exact ⟨rfl, rfl⟩

set_option maxRecDepth 100000 in
set_option maxHeartbeats 400000 in
theorem frameMore_any (b : ByteArray) (w : World) (hb : b.size ≤ maxLen) :
    Calls Try.prog 82 #[.string b] w fun e w' => e = .returned (.bool (moreB b)) ∧ w' = w := by
  unfold maxLen at hb
  by_cases hz : b.size = 1
  · have hz' : (b.size : Int) = 1 := by omega
    have hat := b0of_at (b := b) (by omega)
    have hbd := b0of_bd b
    have hmo : moreB b = (decide (1 ≤ b0of b) && decide (b0of b ≤ 31)) := by unfold moreB; simp [hz]
    rw [hmo]
    clear hmo
    obtain ⟨x0, hx0⟩ : ∃ x, b0of b = x := ⟨_, rfl⟩
    rw [hx0] at hat hbd ⊢
    clear hx0
    by_cases h1 : 1 ≤ x0
    · by_cases h2 : x0 ≤ 31
      all_goals
        go_enter Try.func82, Try.ntmps82
        go_wp2
        go_ret
        exact ⟨ret_boolF (by first | (simp; done) | (simp; omega)), rfl⟩
    · have h1' : x0 < 1 := by omega
      go_enter Try.func82, Try.ntmps82
      go_wp2
      go_ret
      exact ⟨ret_boolF (by first | (simp; done) | (simp; omega)), rfl⟩
  · have hz' : ¬ (b.size : Int) = 1 := by omega
    have hzb : ((b.size : Int) == 1) = false := by simp; omega
    have hmo : moreB b = false := by unfold moreB; exact decide_eq_false (fun h => hz h.1)
    rw [hmo]
    clear hmo
    go_enter Try.func82, Try.ntmps82
    go_wp2
    go_ret
    exact ⟨rfl, rfl⟩

set_option maxRecDepth 100000 in
set_option maxHeartbeats 2000000 in
theorem implFrameOk (f : Fr) (w : World) (hb : f.b.size ≤ maxLen) :
    Calls Try.prog 69 #[f.val] w fun e w' => e = .returned (.bool (frOk f)) ∧ Below w.heap.size w w' := by
  obtain ⟨k, l, s, b⟩ := f
  unfold Fr.val
  have hbl := hb
  unfold maxLen at hb
  dsimp only at hb hbl ⊢
  have hst := fun w => streamId_any s w
  by_cases h0 : k = 0 ∨ k = 1
  · rw [frOk_01 h0]
    obtain ⟨T, hT⟩ : ∃ T, strm s = T := ⟨_, rfl⟩
    rw [hT] at hst ⊢
    clear hT
    by_cases hz : (b.size : Int) ≤ 200
    all_goals
      rcases h0 with rfl | rfl
      all_goals
        cases T
        all_goals
          go_enter Try.func69, Try.ntmps69
          go_wp2_with (go_at_call 79; refine (hst _).mono ?_; rintro e w' ⟨rfl, rfl⟩)
          go_ret
          exact ⟨ret_boolF (by first | rfl | (simp; omega) | simp), (Below.refl _ _).alloc (Nat.le_refl _) _⟩
  · by_cases h3 : k = 3
    · subst h3
      rw [frOk_3]
      obtain ⟨T, hT⟩ : ∃ T, strm s = T := ⟨_, rfl⟩
      rw [hT] at hst ⊢
      clear hT h0
      by_cases hz : b.size = 0
      · have he := isEmptyT hz
        rw [decide_eq_true hz]
        clear hz
        cases T <;> cases l
        all_goals
          go_enter Try.func69, Try.ntmps69
          go_wp2_with (go_at_call 79; refine (hst _).mono ?_; rintro e w' ⟨rfl, rfl⟩)
          go_ret
          exact ⟨ret_boolF (by first | rfl | simp), (Below.refl _ _).alloc (Nat.le_refl _) _⟩
      · have he := isEmpty_false (s := b) (by omega)
        rw [decide_eq_false hz]
        clear hz
        cases T <;> cases l
        all_goals
          go_enter Try.func69, Try.ntmps69
          go_wp2_with (go_at_call 79; refine (hst _).mono ?_; rintro e w' ⟨rfl, rfl⟩)
          go_ret
          exact ⟨ret_boolF (by first | rfl | simp), (Below.refl _ _).alloc (Nat.le_refl _) _⟩
    · by_cases h8 : k = 8
      · subst h8
        rw [frOk_8]
        obtain ⟨T, hT⟩ : ∃ T, strm s = T := ⟨_, rfl⟩
        have hT0 : s = 0 → T = false := by rintro rfl; rw [← hT]; decide
        rw [hT] at hst ⊢
        have hmo := fun w => frameMore_any b w hbl
        obtain ⟨M, hM⟩ : ∃ M, moreB b = M := ⟨_, rfl⟩
        rw [hM] at hmo ⊢
        clear hT h0 h3 hM hbl
        by_cases hs0 : s = 0
        · obtain rfl := hT0 hs0
          have hs0b : (s == 0) = true := by simp [hs0]
          rw [decide_eq_true hs0]
          cases M <;> cases l
          all_goals
            go_enter Try.func69, Try.ntmps69
            go_wp2_with (first | (go_at_call 79; refine (hst _).mono ?_; rintro e w' ⟨rfl, rfl⟩) | (go_at_call 82; refine (hmo _).mono ?_; rintro e w' ⟨rfl, rfl⟩))
            go_ret
            exact ⟨ret_boolF (by first | rfl | simp), (Below.refl _ _).alloc (Nat.le_refl _) _⟩
        · have hs0b : (s == 0) = false := by simp [hs0]
          rw [decide_eq_false hs0]
          clear hT0
          cases T <;> cases M <;> cases l
          all_goals
            go_enter Try.func69, Try.ntmps69
            go_wp2_with (first | (go_at_call 79; refine (hst _).mono ?_; rintro e w' ⟨rfl, rfl⟩) | (go_at_call 82; refine (hmo _).mono ?_; rintro e w' ⟨rfl, rfl⟩))
            go_ret
            exact ⟨ret_boolF (by first | rfl | simp), (Below.refl _ _).alloc (Nat.le_refl _) _⟩
      · rw [frOk_no (fun h => h0 (.inl h)) (fun h => h0 (.inr h)) h3 h8]
        have e0 : (k == 0) = false := by simp; omega
        have e1 : (k == 1) = false := by simp; omega
        have e3 : (k == 3) = false := by simp; omega
        have e8 : (k == 8) = false := by simp; omega
        clear hst h0 h3 h8
        go_enter Try.func69, Try.ntmps69
        go_wp2
        go_ret
        exact ⟨rfl, (Below.refl _ _).alloc (Nat.le_refl _) _⟩
end Go.Proofs.Ytdnajdobmlgmiaa
