import Derived.Test.YtafhpcgdlmkbeayTAdd
namespace Go.Proofs.Ytafhpcgdlmkbeay
open Go.RowKit
set_option linter.unusedVariables false

/-- What TableAdd and TableLimit answer. -/
def addV (fs : List Fd) (max : Int) (f : Fd) : List Fd × Int := if tOk fs max && fOk f then (fitL max (⟨f.n, f.v, false⟩ :: fs), max) else ([], 0)
def limV (fs : List Fd) (max most : Int) : List Fd × Int := if tOk fs max && (decide (0 ≤ most) && decide (most ≤ 64)) then (fitL most fs, most) else ([], 0)
theorem tOk_max {fs : List Fd} {max : Int} (h : tOk fs max = true) : 0 ≤ max ∧ max ≤ 64 := by
  unfold tOk at h
  simp at h
  exact ⟨h.2.1.1, h.2.1.2⟩
/-- A table that is answered: new memory. -/
def TabAns (w : World) (r : List Fd × Int) (e : Ending) (w' : World) : Prop := ∃ v, e = .returned (.agg #[v, .int .i64 r.2]) ∧ w'.ownsRow w.heap.size 37 3 v r.1.length (cellsF r.1) ∧ Below w.heap.size w w'

set_option maxRecDepth 100000 in
set_option maxHeartbeats 1000000 in
theorem specTableAdd (fs : List Fd) (f : Fd) (a : Option Addr) (n cap : Nat) (max : Int) (w : World) (hf : Fs w a n cap fs) (hbd : fsBd fs) (hfb : f.n.size ≤ 1048576 ∧ f.v.size ≤ 1048576) (hn : n ≤ 1048576) :
    Calls Try.prog 14 #[.agg #[.slice a n cap, .int .i64 max], f.val] w (TabAns w (addV fs max f)) := by
  have hok := fun (w' : World) (h : Fs w' a n cap fs) => specTableOk fs a n cap max w' h hbd hn
  have hfo := fun (w' : World) => specFieldOk f w' hfb.1 hfb.2
  have HF : Hid (Fs w a n cap fs) := hf
  have HB : Hid (fsBd fs) := hbd
  clear hf hbd
  have hb3 : Below w.heap.size w (((w.alloc (.cells #[.slice a n cap, .int .i64 max] 29)).alloc (.cells #[.string f.n, .string f.v, .bool f.q] 37)).alloc (.cells #[.slice none 0 0, .int .i64 0] 29)) := (((Below.refl _ _).alloc (Nat.le_refl _) _).alloc (by simp) _).alloc (by simp; omega) _
  have hT : Hid ((((w.alloc (.cells #[.slice a n cap, .int .i64 max] 29)).alloc (.cells #[.string f.n, .string f.v, .bool f.q] 37)).alloc (.cells #[.slice none 0 0, .int .i64 0] 29)).heap[w.heap.size]? = some (.cells #[.slice a n cap, .int .i64 max] 29 (0, 0))) := blkT (blkT (heap_alloc_last w _) _) _
  have hFl : Hid ((((w.alloc (.cells #[.slice a n cap, .int .i64 max] 29)).alloc (.cells #[.string f.n, .string f.v, .bool f.q] 37)).alloc (.cells #[.slice none 0 0, .int .i64 0] 29)).heap[w.heap.size + 1]? = some (.cells #[.string f.n, .string f.v, .bool f.q] 37 (0, 0))) := by
    have h := heap_alloc_last (w.alloc (.cells #[.slice a n cap, .int .i64 max] 29)) (.cells #[.string f.n, .string f.v, .bool f.q] 37)
    rw [World.size_alloc] at h
    exact blkT h _
  have hR : Hid ((((w.alloc (.cells #[.slice a n cap, .int .i64 max] 29)).alloc (.cells #[.string f.n, .string f.v, .bool f.q] 37)).alloc (.cells #[.slice none 0 0, .int .i64 0] 29)).heap[w.heap.size + 1 + 1]? = some (.cells #[.slice none 0 0, .int .i64 0] 29 (0, 0))) := by
    have h := heap_alloc_last ((w.alloc (.cells #[.slice a n cap, .int .i64 max] 29)).alloc (.cells #[.string f.n, .string f.v, .bool f.q] 37)) (.cells #[.slice none 0 0, .int .i64 0] 29)
    rw [World.size_alloc, World.size_alloc] at h
    exact h
  cases ht : tOk fs max with
  | false =>
    rw [ht] at hok
    have hv : addV fs max f = ([], 0) := by unfold addV; rw [ht]; rfl
    rw [hv]
    unfold Fd.val
    clear ht hv
    go_enter Try.func14, Try.ntmps14
    go_wp2_with (first | (go_at_call 9; refine (hok _ (HF.out.below hb3)).mono ?_; clear hok; rintro e w1 ⟨rfl, hb1⟩; have hR1 := (hb1.block _ (Array.getElem?_eq_some_iff.1 hR.out).1).trans hR.out) | (refine wpList_store_row rfl 29 _ _ rfl (w.heap.size + 1 + 1) #[.slice none 0 0, .int .i64 0] rfl rfl 29 _ hR1 infoT2 rfl (by simp [Value.oneCell']) ?_))
    refine bodyPost_ret (results_cell_row rfl _ _ (w.heap.size + 1 + 1) 29 #[.slice none 0 0, .int .i64 0] (0, 0) _ rfl (setRow_heap _ _ _ _ _ _ hR1) Try.underlying29 rfl infoT2) rfl ⟨_, rfl, World.ownsRow_nil _ _ _ _, (hb3.trans (hb1.mono hb3.size)).grown (grown_setRowT _ _ _) (Nat.le_trans hb3.size hb1.size) (fun q hq => by injection hq with hq; omega)⟩
  | true =>
    rw [ht] at hok
    obtain ⟨x0, x1⟩ := tOk_max ht
    cases hfk : fOk f with
    | false =>
      rw [hfk] at hfo
      have hv : addV fs max f = ([], 0) := by unfold addV; rw [ht, hfk]; rfl
      rw [hv]
      unfold Fd.val at hfo ⊢
      clear ht hv hfk
      go_enter Try.func14, Try.ntmps14
      go_wp2_with (first | (go_at_call 9; refine (hok _ (HF.out.below hb3)).mono ?_; clear hok; rintro e w1 ⟨rfl, hb1⟩; have hR1 := (hb1.block _ (Array.getElem?_eq_some_iff.1 hR.out).1).trans hR.out; have hF1 := (hb1.block _ (Array.getElem?_eq_some_iff.1 hFl.out).1).trans hFl.out; have y0 := cell_of_row _ _ 0 _ _ _ hF1; have y1 := cell_of_row _ _ 1 _ _ _ hF1; have y2 := cell_of_row _ _ 2 _ _ _ hF1) | (go_at_call 27; refine (hfo _).mono ?_; clear hfo; rintro e w2 ⟨rfl, hb2⟩; have hR2 := (hb2.block _ (Array.getElem?_eq_some_iff.1 hR1).1).trans hR1) | (refine wpList_store_row rfl 29 _ _ rfl (w.heap.size + 1 + 1) #[.slice none 0 0, .int .i64 0] rfl rfl 29 _ hR2 infoT2 rfl (by simp [Value.oneCell']) ?_))
      refine bodyPost_ret (results_cell_row rfl _ _ (w.heap.size + 1 + 1) 29 #[.slice none 0 0, .int .i64 0] (0, 0) _ rfl (setRow_heap _ _ _ _ _ _ hR2) Try.underlying29 rfl infoT2) rfl ⟨_, rfl, World.ownsRow_nil _ _ _ _, ((hb3.trans (hb1.mono hb3.size)).trans (hb2.mono (Nat.le_trans hb3.size hb1.size))).grown (grown_setRowT _ _ _) (Nat.le_trans (Nat.le_trans hb3.size hb1.size) hb2.size) (fun q hq => by injection hq with hq; omega)⟩
    | true =>
      rw [hfk] at hfo
      have hv : addV fs max f = (fitL max (⟨f.n, f.v, false⟩ :: fs), max) := by unfold addV; rw [ht, hfk]; rfl
      rw [hv]
      have hadd := fun (w' : World) (h : Fs w' a n cap fs) => l3Add_any fs f a n cap max w' h HB.out hfb hn x0 (by omega)
      unfold Fd.val at hfo hadd ⊢
      clear ht hv hfk
      go_enter Try.func14, Try.ntmps14
      go_wp2_with (first | (go_at_call 9; refine (hok _ (HF.out.below hb3)).mono ?_; clear hok; rintro e w1 ⟨rfl, hb1⟩; have hR1 := (hb1.block _ (Array.getElem?_eq_some_iff.1 hR.out).1).trans hR.out; have hF1 := (hb1.block _ (Array.getElem?_eq_some_iff.1 hFl.out).1).trans hFl.out; have hT1 := (hb1.block _ (Array.getElem?_eq_some_iff.1 hT.out).1).trans hT.out; have y0 := cell_of_row _ _ 0 _ _ _ hF1; have y1 := cell_of_row _ _ 1 _ _ _ hF1; have y2 := cell_of_row _ _ 2 _ _ _ hF1) | (go_at_call 27; refine (hfo _).mono ?_; clear hfo; rintro e w2 ⟨rfl, hb2⟩; have hR2 := (hb2.block _ (Array.getElem?_eq_some_iff.1 hR1).1).trans hR1; have hF2 := (hb2.block _ (Array.getElem?_eq_some_iff.1 hF1).1).trans hF1; have hT2 := (hb2.block _ (Array.getElem?_eq_some_iff.1 hT1).1).trans hT1; have u0 := cell_of_row _ _ 0 _ _ _ hF2; have u1 := cell_of_row _ _ 1 _ _ _ hF2; have u2 := cell_of_row _ _ 2 _ _ _ hF2; have t0 := cell_of_row _ _ 0 _ _ _ hT2; have t1 := cell_of_row _ _ 1 _ _ _ hT2; have hbw2 := (hb3.trans (hb1.mono hb3.size)).trans (hb2.mono (Nat.le_trans hb3.size hb1.size))) | (go_at_call 35; refine (hadd _ (HF.out.below hbw2)).mono ?_; clear hadd; rintro e w4 ⟨v4, rfl, hown4, hb4⟩; obtain ⟨a4, c4, rfl⟩ := own_formT hown4; have hR4 := (hb4.block _ (Array.getElem?_eq_some_iff.1 hR2).1).trans hR2) | (refine wpList_store_row rfl 29 _ _ rfl (w.heap.size + 1 + 1) #[.slice a4 (fitL max (⟨f.n, f.v, false⟩ :: fs)).length c4, .int .i64 max] rfl rfl 29 _ hR4 infoT2 rfl (by simp [Value.oneCell']) ?_))
      have hg := grown_setRowT w4 (w.heap.size + 1 + 1) #[.slice a4 (fitL max (⟨f.n, f.v, false⟩ :: fs)).length c4, .int .i64 max]
      have hbw4 : Below w.heap.size w w4 := hbw2.trans (hb4.mono hbw2.size)
      refine bodyPost_ret (results_cell_row rfl _ _ (w.heap.size + 1 + 1) 29 #[.slice a4 (fitL max (⟨f.n, f.v, false⟩ :: fs)).length c4, .int .i64 max] (0, 0) _ rfl (setRow_heap _ _ _ _ _ _ hR4) Try.underlying29 rfl infoT2) rfl ⟨_, rfl, own_baseT (hown4.kept hg (.inr (fun e => not_rowT hR4 (by decide) hown4 e.symm))) hbw2.size, hbw4.grown hg hbw4.size (fun q hq => by injection hq with hq; omega)⟩

set_option maxRecDepth 100000 in
set_option maxHeartbeats 1000000 in
theorem specTableLimit (fs : List Fd) (a : Option Addr) (n cap : Nat) (max most : Int) (w : World) (hf : Fs w a n cap fs) (hbd : fsBd fs) (hn : n ≤ 1048576) :
    Calls Try.prog 19 #[.agg #[.slice a n cap, .int .i64 max], .int .i64 most] w (TabAns w (limV fs max most)) := by
  have hok := fun (w' : World) (h : Fs w' a n cap fs) => specTableOk fs a n cap max w' h hbd hn
  have hin := fun (w' : World) => l6In_any most 0 64 w'
  have HF : Hid (Fs w a n cap fs) := hf
  have HB : Hid (fsBd fs) := hbd
  clear hf hbd
  have hb2 : Below w.heap.size w ((w.alloc (.cells #[.slice a n cap, .int .i64 max] 29)).alloc (.cells #[.slice none 0 0, .int .i64 0] 29)) := ((Below.refl _ _).alloc (Nat.le_refl _) _).alloc (by simp) _
  have hT : Hid (((w.alloc (.cells #[.slice a n cap, .int .i64 max] 29)).alloc (.cells #[.slice none 0 0, .int .i64 0] 29)).heap[w.heap.size]? = some (.cells #[.slice a n cap, .int .i64 max] 29 (0, 0))) := blkT (heap_alloc_last w _) _
  have hR : Hid (((w.alloc (.cells #[.slice a n cap, .int .i64 max] 29)).alloc (.cells #[.slice none 0 0, .int .i64 0] 29)).heap[w.heap.size + 1]? = some (.cells #[.slice none 0 0, .int .i64 0] 29 (0, 0))) := by
    have h := heap_alloc_last (w.alloc (.cells #[.slice a n cap, .int .i64 max] 29)) (.cells #[.slice none 0 0, .int .i64 0] 29)
    rw [World.size_alloc] at h
    exact h
  cases ht : tOk fs max with
  | false =>
    rw [ht] at hok
    have hv : limV fs max most = ([], 0) := by unfold limV; rw [ht]; rfl
    rw [hv]
    clear ht hv hin
    go_enter Try.func19, Try.ntmps19
    go_wp2_with (first | (go_at_call 9; refine (hok _ (HF.out.below hb2)).mono ?_; clear hok; rintro e w1 ⟨rfl, hb1⟩; have hR1 := (hb1.block _ (Array.getElem?_eq_some_iff.1 hR.out).1).trans hR.out) | (refine wpList_store_row rfl 29 _ _ rfl (w.heap.size + 1) #[.slice none 0 0, .int .i64 0] rfl rfl 29 _ hR1 infoT2 rfl (by simp [Value.oneCell']) ?_))
    refine bodyPost_ret (results_cell_row rfl _ _ (w.heap.size + 1) 29 #[.slice none 0 0, .int .i64 0] (0, 0) _ rfl (setRow_heap _ _ _ _ _ _ hR1) Try.underlying29 rfl infoT2) rfl ⟨_, rfl, World.ownsRow_nil _ _ _ _, (hb2.trans (hb1.mono hb2.size)).grown (grown_setRowT _ _ _) (Nat.le_trans hb2.size hb1.size) (fun q hq => by injection hq with hq; omega)⟩
  | true =>
    rw [ht] at hok
    cases hi : (decide (0 ≤ most) && decide (most ≤ 64)) with
    | false =>
      rw [hi] at hin
      have hv : limV fs max most = ([], 0) := by unfold limV; rw [ht, hi]; rfl
      rw [hv]
      clear ht hv hi
      go_enter Try.func19, Try.ntmps19
      go_wp2_with (first | (go_at_call 9; refine (hok _ (HF.out.below hb2)).mono ?_; clear hok; rintro e w1 ⟨rfl, hb1⟩; have hR1 := (hb1.block _ (Array.getElem?_eq_some_iff.1 hR.out).1).trans hR.out) | (go_at_call 28; refine (hin _).mono ?_; clear hin; rintro e wi ⟨rfl, rfl⟩) | (refine wpList_store_row rfl 29 _ _ rfl (w.heap.size + 1) #[.slice none 0 0, .int .i64 0] rfl rfl 29 _ hR1 infoT2 rfl (by simp [Value.oneCell']) ?_))
      refine bodyPost_ret (results_cell_row rfl _ _ (w.heap.size + 1) 29 #[.slice none 0 0, .int .i64 0] (0, 0) _ rfl (setRow_heap _ _ _ _ _ _ hR1) Try.underlying29 rfl infoT2) rfl ⟨_, rfl, World.ownsRow_nil _ _ _ _, (hb2.trans (hb1.mono hb2.size)).grown (grown_setRowT _ _ _) (Nat.le_trans hb2.size hb1.size) (fun q hq => by injection hq with hq; omega)⟩
    | true =>
      rw [hi] at hin
      have hv : limV fs max most = (fitL most fs, most) := by unfold limV; rw [ht, hi]; rfl
      rw [hv]
      have hmo : 0 ≤ most ∧ most ≤ 64 := by simpa using hi
      have hfit := fun (w' : World) (h : Fs w' a n cap fs) => l3Fit_any fs a n cap most w' h HB.out (by omega) hmo.1 (by omega)
      clear ht hv hi hmo
      go_enter Try.func19, Try.ntmps19
      go_wp2_with (first | (go_at_call 9; refine (hok _ (HF.out.below hb2)).mono ?_; clear hok; rintro e w1 ⟨rfl, hb1⟩; have hR1 := (hb1.block _ (Array.getElem?_eq_some_iff.1 hR.out).1).trans hR.out; have hT1 := (hb1.block _ (Array.getElem?_eq_some_iff.1 hT.out).1).trans hT.out; have t0 := cell_of_row _ _ 0 _ _ _ hT1; have hbw1 := hb2.trans (hb1.mono hb2.size)) | (go_at_call 28; refine (hin _).mono ?_; clear hin; rintro e wi ⟨rfl, rfl⟩) | (go_at_call 42; refine (hfit _ (HF.out.below hbw1)).mono ?_; clear hfit; rintro e w4 ⟨v4, rfl, hown4, hb4⟩; obtain ⟨a4, c4, rfl⟩ := own_formT hown4; have hR4 := (hb4.block _ (Array.getElem?_eq_some_iff.1 hR1).1).trans hR1) | (refine wpList_store_row rfl 29 _ _ rfl (w.heap.size + 1) #[.slice a4 (fitL most fs).length c4, .int .i64 most] rfl rfl 29 _ hR4 infoT2 rfl (by simp [Value.oneCell']) ?_))
      have hg := grown_setRowT w4 (w.heap.size + 1) #[.slice a4 (fitL most fs).length c4, .int .i64 most]
      have hbw4 : Below w.heap.size w w4 := hbw1.trans (hb4.mono hbw1.size)
      refine bodyPost_ret (results_cell_row rfl _ _ (w.heap.size + 1) 29 #[.slice a4 (fitL most fs).length c4, .int .i64 most] (0, 0) _ rfl (setRow_heap _ _ _ _ _ _ hR4) Try.underlying29 rfl infoT2) rfl ⟨_, rfl, own_baseT (hown4.kept hg (.inr (fun e => not_rowT hR4 (by decide) hown4 e.symm))) hbw1.size, hbw4.grown hg hbw4.size (fun q hq => by injection hq with hq; omega)⟩
end Go.Proofs.Ytafhpcgdlmkbeay
