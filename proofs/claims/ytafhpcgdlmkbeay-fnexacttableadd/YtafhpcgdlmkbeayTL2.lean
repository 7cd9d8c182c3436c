import Derived.Test.YtafhpcgdlmkbeayTL1
import Derived.Test.YtafhpcgdlmkbeayTAdd2
namespace Go.Proofs.Ytafhpcgdlmkbeay
open Go.RowKit
set_option linter.unusedVariables false

theorem addV_len (fs : List Fd) (max : Int) (f : Fd) : (addV fs max f).1.length ≤ fs.length + 1 := by
  unfold addV
  split
  · show (fitL max (⟨f.n, f.v, false⟩ :: fs)).length ≤ _
    rw [fitL_take, List.length_take, List.length_cons]; omega
  · show 0 ≤ _; omega
theorem addV_ok {fs : List Fd} {max : Int} {f : Fd} (h : tOk fs max = true) (hf : fOk f = true) : addV fs max f = (fitL max (⟨f.n, f.v, false⟩ :: fs), max) := by
  unfold addV; rw [h, hf]; rfl
theorem fOk_q {f : Fd} (h : fOk f = true) (q : Bool) : fOk ⟨f.n, f.v, q⟩ = true := h
/-- What stands in a table behind an add that fits. -/
theorem add_fits {fs : List Fd} {max : Int} {f : Fd} (h : tOk fs max = true) (hf : fOk f = true) (hl : fLen f ≤ max) :
    ∃ R, fitL max (⟨f.n, f.v, false⟩ :: fs) = ⟨f.n, f.v, false⟩ :: R ∧ R = fs.take R.length ∧ R.length ≤ fs.length ∧ tOk (⟨f.n, f.v, false⟩ :: R) max = true ∧ ∀ (hj : R.length < fs.length), max < fSum (⟨f.n, f.v, false⟩ :: R) + fLen fs[R.length] := by
  obtain ⟨h1, h2, h3, h4⟩ := tOk_parts h
  have hk : fLen ⟨f.n, f.v, false⟩ = fLen f := rfl
  refine ⟨fitL (max - fLen f) fs, ?_, fitL_take _ _, ?_, ?_, ?_⟩
  · rw [fitL, hk, if_pos hl]
  · rw [fitL_take, List.length_take]; omega
  · have hs := fitL_sum (max - fLen f) fs (by omega)
    unfold tOk
    simp only [Bool.and_eq_true, List.all_eq_true, decide_eq_true_eq]
    refine ⟨?_, ⟨h2, h3⟩, ?_⟩
    · intro x hx
      rcases List.mem_cons.1 hx with rfl | hx
      · exact ⟨hf, rfl⟩
      · rw [fitL_take] at hx
        have hm := List.mem_of_mem_take hx
        exact ⟨(h1 x hm).1, by rw [(h1 x hm).2]; rfl⟩
    · simp only [fSum, hk]; omega
  · intro hj
    have hn : ¬ fSum (fs.take ((fitL (max - fLen f) fs).length + 1)) ≤ max - fLen f := by
      intro hc
      have := fitL_len (max - fLen f) fs _ (by omega) hc
      omega
    rw [List.take_succ_eq_append_getElem hj, fSum_snoc, ← fitL_take] at hn
    simp only [fSum, hk]
    omega
theorem add_none {fs : List Fd} {max : Int} {f : Fd} (hl : max < fLen f) : fitL max (⟨f.n, f.v, false⟩ :: fs) = [] := by
  have hk : fLen ⟨f.n, f.v, false⟩ = fLen f := rfl
  rw [fitL, hk, if_neg (by omega)]

end Go.Proofs.Ytafhpcgdlmkbeay
