import Derived.Test.YtafhpcgdlmkbeayTL2
namespace Go.Proofs.Ytafhpcgdlmkbeay
open Go.RowKit
set_option linter.unusedVariables false

theorem limV_len (fs : List Fd) (max most : Int) : (limV fs max most).1.length ≤ fs.length := by
  unfold limV
  split
  · show (fitL most fs).length ≤ _
    rw [fitL_take, List.length_take]; omega
  · show 0 ≤ _; omega
theorem limV_ok {fs : List Fd} {max most : Int} (h : tOk fs max = true) (h0 : 0 ≤ most) (h1 : most ≤ 64) : limV fs max most = (fitL most fs, most) := by
  unfold limV; rw [h, show (decide (0 ≤ most) && decide (most ≤ 64)) = true by simp; omega]; rfl
/-- What stands in a table that was made smaller. -/
theorem lim_fits {fs : List Fd} {max most : Int} (h : tOk fs max = true) (h0 : 0 ≤ most) (h1 : most ≤ 64) :
    (fitL most fs).length ≤ fs.length ∧ tOk (fitL most fs) most = true ∧ fitL most (fitL most fs) = fitL most fs ∧ ∀ (hj : (fitL most fs).length < fs.length), most < fSum (fitL most fs) + fLen fs[(fitL most fs).length] := by
  obtain ⟨a1, a2, a3, a4⟩ := tOk_parts h
  have hs := fitL_sum most fs h0
  refine ⟨?_, ?_, ?_, ?_⟩
  · rw [fitL_take, List.length_take]; omega
  · unfold tOk
    simp only [Bool.and_eq_true, List.all_eq_true, decide_eq_true_eq]
    refine ⟨?_, ⟨h0, h1⟩, hs⟩
    intro x hx
    rw [fitL_take] at hx
    have hm := List.mem_of_mem_take hx
    exact ⟨(a1 x hm).1, by rw [(a1 x hm).2]; rfl⟩
  · have h2 := fitL_len most (fitL most fs) (fitL most fs).length (Nat.le_refl _) (by rw [List.take_length]; exact hs)
    rw [fitL_take most (fitL most fs)]
    exact List.take_of_length_le h2
  · intro hj
    have hn : ¬ fSum (fs.take ((fitL most fs).length + 1)) ≤ most := by
      intro hc
      have := fitL_len most fs _ (by omega) hc
      omega
    rw [List.take_succ_eq_append_getElem hj, fSum_snoc, ← fitL_take] at hn
    omega
theorem fitL_all {fs : List Fd} {m : Int} (h : fSum fs ≤ m) : fitL m fs = fs := by
  have h2 := fitL_len m fs fs.length (Nat.le_refl _) (by rw [List.take_length]; exact h)
  rw [fitL_take]
  exact List.take_of_length_le h2

theorem field_tab (v x : Value) (w : World) : (Instr.field 29 (.agg #[v, x]) 0).run Try.prog w = .ok v w := by kernel_rfl
end Go.Proofs.Ytafhpcgdlmkbeay
