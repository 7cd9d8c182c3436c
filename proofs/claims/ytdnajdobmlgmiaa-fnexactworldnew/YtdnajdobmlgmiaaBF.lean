import Derived.Test.YtdnajdobmlgmiaaBB
namespace Go.Proofs.Ytdnajdobmlgmiaa
open Go.RowKit
set_option linter.unusedVariables false

theorem Fs.take {w : World} {a : Option Addr} {n cap : Nat} {fs : List Fd} (h : Fs w a n cap fs) (k : Nat) (hk : k ≤ n) : Fs w a k cap (fs.take k) := by
  refine ⟨by rw [List.length_take, h.len]; omega, Nat.le_trans hk h.le, h.cmax, ?_, fun hp => h.some' (by omega), ?_⟩
  · intro g o e j u hu
    refine h.cells g o e j u ?_
    rw [← cellsF_take, List.getElem?_take] at hu
    split at hu
    · exact hu
    · cases hu
  · rcases h.form with ⟨h1, h2, h3⟩ | h1
    · exact .inl ⟨h1, by omega, h3⟩
    · exact .inr h1
theorem cellsF_drop (fs : List Fd) (k : Nat) : cellsF (fs.drop k) = (cellsF fs).drop (k * 3) := by
  induction k generalizing fs with
  | zero => simp
  | succ k ih =>
    cases fs with
    | nil => simp [cellsF]
    | cons f t => rw [List.drop_succ_cons, ih, cellsF_cons, show (k + 1) * 3 = k * 3 + 1 + 1 + 1 by omega, List.drop_succ_cons, List.drop_succ_cons, List.drop_succ_cons]
theorem Fs.drop {w : World} {g o n cap : Nat} {fs : List Fd} (h : Fs w (some ⟨g, o, none⟩) n cap fs) (k : Nat) (hk : k ≤ n) : Fs w (some ⟨g, o + k * 3, none⟩) (n - k) (cap - k) (fs.drop k) := by
  refine ⟨by rw [List.length_drop, h.len], by have := h.le; omega, by have := h.cmax; omega, ?_, fun _ => ⟨_, _, rfl⟩, .inr ⟨_, _, rfl⟩⟩
  intro g' o' e j u hu
  injection e with e
  injection e with e1 e2
  subst e1 e2
  rw [cellsF_drop, List.getElem?_drop] at hu
  have := h.cells g o rfl _ u hu
  rwa [show o + k * 3 + j = o + (k * 3 + j) by omega]
set_option maxRecDepth 100000 in
theorem Fs.from {w : World} {g o n cap : Nat} {fs : List Fd} (h : Fs w (some ⟨g, o, none⟩) n cap fs) (k : Nat) (l : Int) (hl : l = k) (hk : k ≤ n) : ∃ g2 o2, (∀ W, (Instr.sliceAt 22 (.slice (some ⟨g, o, none⟩) n cap) (some (.int .i64 l)) none none).run Try.prog W = .ok (.slice (some ⟨g2, o2, none⟩) (n - k) (cap - k)) W) ∧ ∀ W, Fs W (some ⟨g, o, none⟩) n cap fs → Fs W (some ⟨g2, o2, none⟩) (n - k) (cap - k) (fs.drop k) := by
  subst hl
  have hs : ∀ W, (Instr.sliceAt 22 (.slice (some ⟨g, o, none⟩) n cap) (some (.int .i64 (k : Int))) none none).run Try.prog W = .ok (sliced (some ⟨g, o, none⟩) k n cap 3) W := by
    intro W
    have hu : Try.prog.underlying 22 = some (.slice (Try.prog.elem 22)) := by kernel_rfl
    rw [run_sliceAt_slice _ _ _ _ _ _ hu, run_slice_l W _ _ _ _ hu .i64 k (by omega) (by omega)]
    clear hu h
    go_simp
  have hle := h.le
  by_cases e : cap = k
  · refine ⟨g, o, fun W => ?_, fun W hW => ?_⟩
    · rw [hs]; unfold sliced; rw [if_pos e]
    · have hn : n = k := by omega
      refine ⟨by rw [List.length_drop, hW.len], by omega, by have := hW.cmax; omega, ?_, fun _ => ⟨_, _, rfl⟩, .inr ⟨_, _, rfl⟩⟩
      intro g' o' _ j u hu
      rw [List.drop_of_length_le (by rw [hW.len]; omega)] at hu
      cases hu
  · refine ⟨g, o + k * 3, fun W => ?_, fun W hW => hW.drop k hk⟩
    rw [hs]; unfold sliced; rw [if_neg e]
    show Result.ok (Value.slice (some ((⟨g, o, none⟩ : Addr).add (k * 3))) (n - k) (cap - k)) W = _
    rw [Addr.add_lit]
set_option maxRecDepth 100000 in
theorem Fs.upto {w : World} {a : Option Addr} {n cap : Nat} {fs : List Fd} (h : Fs w a n cap fs) (k : Nat) (l : Int) (hl : l = k) (hk : k ≤ n) (W : World) : (Instr.sliceAt 22 (.slice a n cap) none (some (.int .i64 l)) none).run Try.prog W = .ok (.slice a k cap) W := by
  subst hl
  have hle := h.le
  have hs : (Instr.sliceAt 22 (.slice a n cap) none (some (.int .i64 (k : Int))) none).run Try.prog W = .ok (sliced a 0 k cap 3) W := by
    have hu : Try.prog.underlying 22 = some (.slice (Try.prog.elem 22)) := by kernel_rfl
    rw [run_sliceAt_slice _ _ _ _ _ _ hu, run_slice_h W _ _ _ _ hu .i64 k (by omega) (by omega)]
    clear hu h
    go_simp
  rw [hs]
  unfold sliced
  rcases h.form with ⟨rfl, rfl, rfl⟩ | ⟨g, o, rfl⟩
  · simp
  · split
    · simp
    · show Result.ok (Value.slice (some ((⟨g, o, none⟩ : Addr).add (0 * 3))) (k - 0) (cap - 0)) W = _
      rw [Addr.add_lit]; simp
theorem fSum_append (a b : List Fd) : fSum (a ++ b) = fSum a + fSum b := by
  induction a with
  | nil => simp [fSum]
  | cons f t ih => simp only [List.cons_append, fSum, ih]; omega
theorem fSum_cut (fs : List Fd) (k : Nat) (h : k < fs.length) : fSum (fs.take k ++ fs.drop (k + 1)) = fSum fs - fLen fs[k] := by
  have e : fs = fs.take k ++ fs[k] :: fs.drop (k + 1) := by rw [← List.drop_eq_getElem_cons h, List.take_append_drop]
  have e2 : fSum fs = fSum (fs.take k) + (fLen fs[k] + fSum (fs.drop (k + 1))) := by
    conv => lhs; rw [e]
    rw [fSum_append]; rfl
  rw [fSum_append]
  omega
theorem tOk_sub {fs gs : List Fd} {max : Int} (h : tOk fs max = true) (hs : ∀ f ∈ gs, f ∈ fs) (hl : fSum gs ≤ fSum fs) : tOk gs max = true := by
  obtain ⟨h1, h2, h3, h4⟩ := tOk_parts h
  unfold tOk
  simp only [Bool.and_eq_true, List.all_eq_true, decide_eq_true_eq]
  exact ⟨fun f hf => ⟨(h1 f (hs f hf)).1, by rw [(h1 f (hs f hf)).2]; rfl⟩, ⟨h2, h3⟩, by omega⟩

end Go.Proofs.Ytdnajdobmlgmiaa

namespace Go.Proofs.Ytdnajdobmlgmiaa
open Go.RowKit
set_option linter.unusedVariables false

theorem addV_len (fs : List Fd) (max : Int) (f : Fd) : (addV fs max f).1.length ≤ fs.length + 1 := by
  unfold addV
  split
  · show (fitL max (⟨f.n, f.v, false⟩ :: fs)).length ≤ _
    rw [fitL_take, List.length_take, List.length_cons]; omega
  · show 0 ≤ _; omega
theorem addV_ok {fs : List Fd} {max : Int} {f : Fd} (h : tOk fs max = true) (hf : fOk f = true) : addV fs max f = (fitL max (⟨f.n, f.v, false⟩ :: fs), max) := by
  unfold addV; rw [h, hf]; rfl
theorem fOk_q {f : Fd} (h : fOk f = true) (q : Bool) : fOk ⟨f.n, f.v, q⟩ = true := h
/-- What stands in a table behind an add that fits. -/
theorem add_fits {fs : List Fd} {max : Int} {f : Fd} (h : tOk fs max = true) (hf : fOk f = true) (hl : fLen f ≤ max) :
    ∃ R, fitL max (⟨f.n, f.v, false⟩ :: fs) = ⟨f.n, f.v, false⟩ :: R ∧ R = fs.take R.length ∧ R.length ≤ fs.length ∧ tOk (⟨f.n, f.v, false⟩ :: R) max = true ∧ ∀ (hj : R.length < fs.length), max < fSum (⟨f.n, f.v, false⟩ :: R) + fLen fs[R.length] := by
  obtain ⟨h1, h2, h3, h4⟩ := tOk_parts h
  have hk : fLen ⟨f.n, f.v, false⟩ = fLen f := rfl
  refine ⟨fitL (max - fLen f) fs, ?_, fitL_take _ _, ?_, ?_, ?_⟩
  · rw [fitL, hk, if_pos hl]
  · rw [fitL_take, List.length_take]; omega
  · have hs := fitL_sum (max - fLen f) fs (by omega)
    unfold tOk
    simp only [Bool.and_eq_true, List.all_eq_true, decide_eq_true_eq]
    refine ⟨?_, ⟨h2, h3⟩, ?_⟩
    · intro x hx
      rcases List.mem_cons.1 hx with rfl | hx
      · exact ⟨hf, rfl⟩
      · rw [fitL_take] at hx
        have hm := List.mem_of_mem_take hx
        exact ⟨(h1 x hm).1, by rw [(h1 x hm).2]; rfl⟩
    · simp only [fSum, hk]; omega
  · intro hj
    have hn : ¬ fSum (fs.take ((fitL (max - fLen f) fs).length + 1)) ≤ max - fLen f := by
      intro hc
      have := fitL_len (max - fLen f) fs _ (by omega) hc
      omega
    rw [List.take_succ_eq_append_getElem hj, fSum_snoc, ← fitL_take] at hn
    simp only [fSum, hk]
    omega
theorem add_none {fs : List Fd} {max : Int} {f : Fd} (hl : max < fLen f) : fitL max (⟨f.n, f.v, false⟩ :: fs) = [] := by
  have hk : fLen ⟨f.n, f.v, false⟩ = fLen f := rfl
  rw [fitL, hk, if_neg (by omega)]

end Go.Proofs.Ytdnajdobmlgmiaa

namespace Go.Proofs.Ytdnajdobmlgmiaa
open Go.RowKit
set_option linter.unusedVariables false

theorem limV_len (fs : List Fd) (max most : Int) : (limV fs max most).1.length ≤ fs.length := by
  unfold limV
  split
  · show (fitL most fs).length ≤ _
    rw [fitL_take, List.length_take]; omega
  · show 0 ≤ _; omega
theorem limV_ok {fs : List Fd} {max most : Int} (h : tOk fs max = true) (h0 : 0 ≤ most) (h1 : most ≤ 64) : limV fs max most = (fitL most fs, most) := by
  unfold limV; rw [h, show (decide (0 ≤ most) && decide (most ≤ 64)) = true by simp; omega]; rfl
/-- What stands in a table that was made smaller. -/
theorem lim_fits {fs : List Fd} {max most : Int} (h : tOk fs max = true) (h0 : 0 ≤ most) (h1 : most ≤ 64) :
    (fitL most fs).length ≤ fs.length ∧ tOk (fitL most fs) most = true ∧ fitL most (fitL most fs) = fitL most fs ∧ ∀ (hj : (fitL most fs).length < fs.length), most < fSum (fitL most fs) + fLen fs[(fitL most fs).length] := by
  obtain ⟨a1, a2, a3, a4⟩ := tOk_parts h
  have hs := fitL_sum most fs h0
  refine ⟨?_, ?_, ?_, ?_⟩
  · rw [fitL_take, List.length_take]; omega
  · unfold tOk
    simp only [Bool.and_eq_true, List.all_eq_true, decide_eq_true_eq]
    refine ⟨?_, ⟨h0, h1⟩, hs⟩
    intro x hx
    rw [fitL_take] at hx
    have hm := List.mem_of_mem_take hx
    exact ⟨(a1 x hm).1, by rw [(a1 x hm).2]; rfl⟩
  · have h2 := fitL_len most (fitL most fs) (fitL most fs).length (Nat.le_refl _) (by rw [List.take_length]; exact hs)
    rw [fitL_take most (fitL most fs)]
    exact List.take_of_length_le h2
  · intro hj
    have hn : ¬ fSum (fs.take ((fitL most fs).length + 1)) ≤ most := by
      intro hc
      have := fitL_len most fs _ (by omega) hc
      omega
    rw [List.take_succ_eq_append_getElem hj, fSum_snoc, ← fitL_take] at hn
    omega
theorem fitL_all {fs : List Fd} {m : Int} (h : fSum fs ≤ m) : fitL m fs = fs := by
  have h2 := fitL_len m fs fs.length (Nat.le_refl _) (by rw [List.take_length]; exact h)
  rw [fitL_take]
  exact List.take_of_length_le h2

theorem field_tab (v x : Value) (w : World) : (Instr.field 24 (.agg #[v, x]) 0).run Try.prog w = .ok v w := by kernel_rfl
end Go.Proofs.Ytdnajdobmlgmiaa
