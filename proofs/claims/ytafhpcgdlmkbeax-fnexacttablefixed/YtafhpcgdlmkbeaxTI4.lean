import Derived.Test.YtafhpcgdlmkbeaxTI3
namespace Go.Proofs.Ytafhpcgdlmkbeax
open Go.RowKit
set_option linter.unusedVariables false

theorem wOk_size {s : ByteArray} (h : wOk (bytesL s) = true) : s.size ≤ 16 := by
  unfold wOk at h
  rw [Bool.and_eq_true] at h
  have := h.2
  rw [bytesL_length] at this
  simpa using this
theorem fOk_size {f : Fd} (h : fOk f = true) : f.n.size ≤ 16 ∧ f.v.size ≤ 16 := by
  unfold fOk at h
  rw [Bool.and_eq_true, Bool.and_eq_true] at h
  exact ⟨wOk_size h.1.1, wOk_size h.2⟩
theorem tOk_parts {fs : List Fd} {max : Int} (h : tOk fs max = true) : (∀ f ∈ fs, fOk f = true ∧ f.q = false) ∧ 0 ≤ max ∧ max ≤ 64 ∧ fSum fs ≤ max := by
  unfold tOk at h
  simp only [Bool.and_eq_true, List.all_eq_true, decide_eq_true_eq] at h
  exact ⟨fun f hf => ⟨(h.1 f hf).1, by simpa using (h.1 f hf).2⟩, h.2.1.1, h.2.1.2, h.2.2⟩
theorem tOk_kept {fs : List Fd} {max : Int} (h : tOk fs max = true) : fsKept fs := fun f hf => ⟨((tOk_parts h).1 f hf).2, fOk_size ((tOk_parts h).1 f hf).1⟩
theorem tOk_len {fs : List Fd} {max : Int} (h : tOk fs max = true) : fs.length ≤ 16 := by
  have h1 := tOk_parts h
  have h2 := fSum_four fs
  omega

end Go.Proofs.Ytafhpcgdlmkbeax
