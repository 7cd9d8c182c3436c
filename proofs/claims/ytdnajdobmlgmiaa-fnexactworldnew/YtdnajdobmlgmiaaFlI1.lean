import Derived.Test.YtdnajdobmlgmiaaCD
namespace Go.Proofs.Ytdnajdobmlgmiaa
open Go.RowKit
set_option linter.unusedVariables false

theorem numOk_yes (n : Int) (w : World) (h : 0 ≤ n ∧ n ≤ 31) :
    Calls Try.prog 73 #[.int .i64 n] w fun e w' => e = .returned (.bool true) ∧ w' = w := by
  obtain ⟨h0, h1⟩ := h
  go_enter Try.func73, Try.ntmps73
  go_wp2
  go_ret
  exact ⟨rfl, rfl⟩
theorem numOk_no (n : Int) (w : World) (h : ¬ (0 ≤ n ∧ n ≤ 31)) :
    Calls Try.prog 73 #[.int .i64 n] w fun e w' => e = .returned (.bool false) ∧ w' = w := by
  by_cases h0 : 0 ≤ n
  · have h1 : ¬ n ≤ 31 := fun h1 => h ⟨h0, h1⟩
    clear h
    go_enter Try.func73, Try.ntmps73
    go_wp2
    go_ret
    exact ⟨rfl, rfl⟩
  · clear h
    go_enter Try.func73, Try.ntmps73
    go_wp2
    go_ret
    exact ⟨rfl, rfl⟩

set_option maxRecDepth 100000 in
theorem implFlowOk (f : Fw) (w : World) :
    Calls Try.prog 48 #[f.val] w fun e w' => e = .returned (.bool (flOk f)) ∧ Below w.heap.size w w' := by
  obtain ⟨s, r⟩ := f
  unfold Fw.val flOk
  dsimp only
  by_cases h1 : 0 ≤ s ∧ s ≤ 31
  · have c1 := fun w => numOk_yes s w h1
    rw [decide_eq_true h1]
    by_cases h2 : 0 ≤ r ∧ r ≤ 31
    · have c2 := fun w => numOk_yes r w h2
      rw [decide_eq_true h2]
      clear h1 h2
      go_enter Try.func48, Try.ntmps48
      go_wp2_with (first | (go_at_call 73; refine (c1 _).mono ?_; clear c1; rintro e w' ⟨rfl, rfl⟩) | (go_at_call 73; refine (c2 _).mono ?_; clear c2; rintro e w' ⟨rfl, rfl⟩))
      go_ret
      exact ⟨rfl, (Below.refl _ _).alloc (Nat.le_refl _) _⟩
    · have c2 := fun w => numOk_no r w h2
      rw [decide_eq_false h2]
      clear h1 h2
      go_enter Try.func48, Try.ntmps48
      go_wp2_with (first | (go_at_call 73; refine (c1 _).mono ?_; clear c1; rintro e w' ⟨rfl, rfl⟩) | (go_at_call 73; refine (c2 _).mono ?_; clear c2; rintro e w' ⟨rfl, rfl⟩))
      go_ret
      exact ⟨rfl, (Below.refl _ _).alloc (Nat.le_refl _) _⟩
  · have c1 := fun w => numOk_no s w h1
    rw [decide_eq_false h1]
    clear h1
    go_enter Try.func48, Try.ntmps48
    go_wp2_with (go_at_call 73; refine (c1 _).mono ?_; clear c1; rintro e w' ⟨rfl, rfl⟩)
    go_ret
    exact ⟨rfl, (Below.refl _ _).alloc (Nat.le_refl _) _⟩


end Go.Proofs.Ytdnajdobmlgmiaa
