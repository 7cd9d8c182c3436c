import Derived.Test.YtafhpcgdlmkbeayTI3
namespace Go.Proofs.Ytafhpcgdlmkbeay
open Go.RowKit
set_option linter.unusedVariables false

theorem wOk_size {s : ByteArray} (h : wOk (bytesL s) = true) : s.size ≤ 16 := by
  unfold wOk at h
  rw [Bool.and_eq_true] at h
  have := h.2
  rw [bytesL_length] at this
  simpa using this
theorem fOk_size {f : Fd} (h : fOk f = true) : f.n.size ≤ 16 ∧ f.v.size ≤ 16 := by
  unfold fOk at h
  rw [Bool.and_eq_true, Bool.and_eq_true] at h
  exact ⟨wOk_size h.1.1, wOk_size h.2⟩
theorem tOk_parts {fs : List Fd} {max : Int} (h : tOk fs max = true) : (∀ f ∈ fs, fOk f = true ∧ f.q = false) ∧ 0 ≤ max ∧ max ≤ 64 ∧ fSum fs ≤ max := by
  unfold tOk at h
  simp only [Bool.and_eq_true, List.all_eq_true, decide_eq_true_eq] at h
  exact ⟨fun f hf => ⟨(h.1 f hf).1, by simpa using (h.1 f hf).2⟩, h.2.1.1, h.2.1.2, h.2.2⟩
theorem tOk_kept {fs : List Fd} {max : Int} (h : tOk fs max = true) : fsKept fs := fun f hf => ⟨((tOk_parts h).1 f hf).2, fOk_size ((tOk_parts h).1 f hf).1⟩
theorem tOk_len {fs : List Fd} {max : Int} (h : tOk fs max = true) : fs.length ≤ 16 := by
  have h1 := tOk_parts h
  have h2 := fSum_four fs
  omega

set_option maxRecDepth 100000 in
set_option maxHeartbeats 1000000 in
theorem implTableAdd (fs : List Fd) (f : Fd) (a : Option Addr) (n cap : Nat) (max : Int) (w : World) (hf : Fs w a n cap fs) (hbd : fsBd fs) (hfb : f.n.size ≤ 1048576 ∧ f.v.size ≤ 1048576) (hn : n ≤ 1048576) :
    Calls Try.prog 16 #[.agg #[.slice a n cap, .int .i64 max], f.val] w (TabAns w (addV fs max f)) := by
  have hok := fun (w' : World) (h : Fs w' a n cap fs) => implTableOk fs a n cap max w' h hbd hn
  have hfo := fun (w' : World) => implFieldOk f w' hfb.1 hfb.2
  have HF : Hid (Fs w a n cap fs) := hf
  have HB : Hid (fsBd fs) := hbd
  have hlen := hf.len
  clear hf hbd
  have hb3 : Below w.heap.size w (((w.alloc (.cells #[.slice a n cap, .int .i64 max] 29)).alloc (.cells #[.string f.n, .string f.v, .bool f.q] 37)).alloc (.cells #[.slice none 0 0, .int .i64 0] 29)) := (((Below.refl _ _).alloc (Nat.le_refl _) _).alloc (by simp) _).alloc (by simp; omega) _
  have hT : Hid ((((w.alloc (.cells #[.slice a n cap, .int .i64 max] 29)).alloc (.cells #[.string f.n, .string f.v, .bool f.q] 37)).alloc (.cells #[.slice none 0 0, .int .i64 0] 29)).heap[w.heap.size]? = some (.cells #[.slice a n cap, .int .i64 max] 29 (0, 0))) := blkT (blkT (heap_alloc_last w _) _) _
  have hFl : Hid ((((w.alloc (.cells #[.slice a n cap, .int .i64 max] 29)).alloc (.cells #[.string f.n, .string f.v, .bool f.q] 37)).alloc (.cells #[.slice none 0 0, .int .i64 0] 29)).heap[w.heap.size + 1]? = some (.cells #[.string f.n, .string f.v, .bool f.q] 37 (0, 0))) := by
    have h := heap_alloc_last (w.alloc (.cells #[.slice a n cap, .int .i64 max] 29)) (.cells #[.string f.n, .string f.v, .bool f.q] 37)
    rw [World.size_alloc] at h
    exact blkT h _
  have hR : Hid ((((w.alloc (.cells #[.slice a n cap, .int .i64 max] 29)).alloc (.cells #[.string f.n, .string f.v, .bool f.q] 37)).alloc (.cells #[.slice none 0 0, .int .i64 0] 29)).heap[w.heap.size + 1 + 1]? = some (.cells #[.slice none 0 0, .int .i64 0] 29 (0, 0))) := by
    have h := heap_alloc_last ((w.alloc (.cells #[.slice a n cap, .int .i64 max] 29)).alloc (.cells #[.string f.n, .string f.v, .bool f.q] 37)) (.cells #[.slice none 0 0, .int .i64 0] 29)
    rw [World.size_alloc, World.size_alloc] at h
    exact h
  cases ht : tOk fs max with
  | false =>
    rw [ht] at hok
    have hv : addV fs max f = ([], 0) := by unfold addV; rw [ht]; rfl
    rw [hv]
    unfold Fd.val
    clear ht hv
    go_enter Try.func16, Try.ntmps16
    go_wp2_with (first | (go_at_call 11; refine (hok _ (HF.out.below hb3)).mono ?_; clear hok; rintro e w1 ⟨rfl, hb1⟩; have hR1 := (hb1.block _ (Array.getElem?_eq_some_iff.1 hR.out).1).trans hR.out) | (refine wpList_store_row rfl 29 _ _ rfl (w.heap.size + 1 + 1) #[.slice none 0 0, .int .i64 0] rfl rfl 29 _ hR1 infoT2 rfl (by simp [Value.oneCell']) ?_))
    refine bodyPost_ret (results_cell_row rfl _ _ (w.heap.size + 1 + 1) 29 #[.slice none 0 0, .int .i64 0] (0, 0) _ rfl (setRow_heap _ _ _ _ _ _ hR1) Try.underlying29 rfl infoT2) rfl ⟨_, rfl, World.ownsRow_nil _ _ _ _, (hb3.trans (hb1.mono hb3.size)).grown (grown_setRowT _ _ _) (Nat.le_trans hb3.size hb1.size) (fun q hq => by injection hq with hq; omega)⟩
  | true =>
    rw [ht] at hok
    obtain ⟨x0, x1⟩ := tOk_max ht
    have hkept := tOk_kept ht
    have hl16 := tOk_len ht
    cases hfk : fOk f with
    | false =>
      rw [hfk] at hfo
      have hv : addV fs max f = ([], 0) := by unfold addV; rw [ht, hfk]; rfl
      rw [hv]
      unfold Fd.val at hfo ⊢
      clear ht hv hfk
      go_enter Try.func16, Try.ntmps16
      go_wp2_with (first | (go_at_call 11; refine (hok _ (HF.out.below hb3)).mono ?_; clear hok; rintro e w1 ⟨rfl, hb1⟩; have hR1 := (hb1.block _ (Array.getElem?_eq_some_iff.1 hR.out).1).trans hR.out; have hF1 := (hb1.block _ (Array.getElem?_eq_some_iff.1 hFl.out).1).trans hFl.out; have y0 := cell_of_row _ _ 0 _ _ _ hF1; have y1 := cell_of_row _ _ 1 _ _ _ hF1; have y2 := cell_of_row _ _ 2 _ _ _ hF1) | (go_at_call 32; refine (hfo _).mono ?_; clear hfo; rintro e w2 ⟨rfl, hb2⟩; have hR2 := (hb2.block _ (Array.getElem?_eq_some_iff.1 hR1).1).trans hR1) | (refine wpList_store_row rfl 29 _ _ rfl (w.heap.size + 1 + 1) #[.slice none 0 0, .int .i64 0] rfl rfl 29 _ hR2 infoT2 rfl (by simp [Value.oneCell']) ?_))
      refine bodyPost_ret (results_cell_row rfl _ _ (w.heap.size + 1 + 1) 29 #[.slice none 0 0, .int .i64 0] (0, 0) _ rfl (setRow_heap _ _ _ _ _ _ hR2) Try.underlying29 rfl infoT2) rfl ⟨_, rfl, World.ownsRow_nil _ _ _ _, ((hb3.trans (hb1.mono hb3.size)).trans (hb2.mono (Nat.le_trans hb3.size hb1.size))).grown (grown_setRowT _ _ _) (Nat.le_trans (Nat.le_trans hb3.size hb1.size) hb2.size) (fun q hq => by injection hq with hq; omega)⟩
    | true =>
      rw [hfk] at hfo
      have hv : addV fs max f = (fitL max (⟨f.n, f.v, false⟩ :: fs), max) := by unfold addV; rw [ht, hfk]; rfl
      rw [hv]
      obtain ⟨f16, v16⟩ := fOk_size hfk
      have hring := fun (w' : World) (h : Fs w' a n cap fs) => tableRing_any fs a n cap max w' h hkept (by omega)
      have hkf := fun (w' : World) => fieldKept_any f w' f16 v16
      have hbf : fsBd (⟨f.n, f.v, false⟩ :: fs) := by
        intro x hx
        rcases List.mem_cons.1 hx with rfl | hx
        · exact hfb
        · exact HB.out x hx
      have hfirst := fun (base B g fi : Nat) (w' : World) (h : Rg base w' B g (n + 1) fi fs) (hb : base ≤ w'.heap.size) => addFirst_any base B g (n + 1) fi fs ⟨f.n, f.v, false⟩ w' h (by omega) hb
      have hfit := fun (base B g fi : Nat) (w' : World) (h : Rg base w' B g (n + 1) fi (⟨f.n, f.v, false⟩ :: fs)) (hb : base ≤ w'.heap.size) => tableFit_any base B g (n + 1) fi (⟨f.n, f.v, false⟩ :: fs) max w' h hb hbf x0 (by omega)
      have HBF : Hid (fsBd (⟨f.n, f.v, false⟩ :: fs)) := hbf
      unfold Fd.val at hfo hkf hfirst ⊢
      clear ht hv hfk hbf
      have HKP : Hid (fsKept fs) := hkept
      clear hkept
      go_enter Try.func16, Try.ntmps16
      go_wp2_with (first | (go_at_call 11; refine (hok _ (HF.out.below hb3)).mono ?_; clear hok; rintro e w1 ⟨rfl, hb1⟩; have hR1 := (hb1.block _ (Array.getElem?_eq_some_iff.1 hR.out).1).trans hR.out; have hF1 := (hb1.block _ (Array.getElem?_eq_some_iff.1 hFl.out).1).trans hFl.out; have hT1 := (hb1.block _ (Array.getElem?_eq_some_iff.1 hT.out).1).trans hT.out; have y0 := cell_of_row _ _ 0 _ _ _ hF1; have y1 := cell_of_row _ _ 1 _ _ _ hF1; have y2 := cell_of_row _ _ 2 _ _ _ hF1) | (go_at_call 32; refine (hfo _).mono ?_; clear hfo; rintro e w2 ⟨rfl, hb2⟩; have hR2 := (hb2.block _ (Array.getElem?_eq_some_iff.1 hR1).1).trans hR1; have hF2 := (hb2.block _ (Array.getElem?_eq_some_iff.1 hF1).1).trans hF1; have hT2 := (hb2.block _ (Array.getElem?_eq_some_iff.1 hT1).1).trans hT1; have t0 := cell_of_row _ _ 0 _ _ _ hT2; have t1 := cell_of_row _ _ 1 _ _ _ hT2; have hbw2 := (hb3.trans (hb1.mono hb3.size)).trans (hb2.mono (Nat.le_trans hb3.size hb1.size))) | (go_at_call 36; refine (hring _ (HF.out.below hbw2)).mono ?_; clear hring; rintro e w3 ⟨B, g, fi, rfl, hG3, hb33⟩; have hR3 := (hb33.block _ (Array.getElem?_eq_some_iff.1 hR2).1).trans hR2; have hF3 := (hb33.block _ (Array.getElem?_eq_some_iff.1 hF2).1).trans hF2; have hT3 := (hb33.block _ (Array.getElem?_eq_some_iff.1 hT2).1).trans hT2; have u0 := cell_of_row _ _ 0 _ _ _ hF3; have u1 := cell_of_row _ _ 1 _ _ _ hF3; have u2 := cell_of_row _ _ 2 _ _ _ hF3) | (go_at_call 38; refine (hkf _).mono ?_; clear hkf; rintro e w4 ⟨rfl, hb4⟩; have hG4 := hG3.below hb4; have hB24 := hb33.trans (hb4.mono hb33.size)) | (go_at_call 37; refine (hfirst _ _ _ _ _ hG4 hB24.size).mono ?_; clear hfirst; rintro e w5 ⟨rfl, hG5, hb5⟩; have hB25 := hB24.trans hb5; have hT5 := (hB25.block _ (Array.getElem?_eq_some_iff.1 hT2).1).trans hT2; have hR5 := (hB25.block _ (Array.getElem?_eq_some_iff.1 hR2).1).trans hR2; have s1 := cell_of_row _ _ 1 _ _ _ hT5) | (go_at_call 39; refine (hfit _ _ _ _ _ hG5 hB25.size).mono ?_; clear hfit; rintro e w6 ⟨v6, rfl, hown6, hb6⟩; obtain ⟨a6, c6, rfl⟩ := own_formT hown6; have hB26 := hB25.trans hb6; have hR6 := (hB26.block _ (Array.getElem?_eq_some_iff.1 hR2).1).trans hR2) | (refine wpList_store_row rfl 29 _ _ rfl (w.heap.size + 1 + 1) #[.slice a6 (fitL max (⟨f.n, f.v, false⟩ :: fs)).length c6, .int .i64 max] rfl rfl 29 _ hR6 infoT2 rfl (by simp [Value.oneCell']) ?_))
      have hg := grown_setRowT w6 (w.heap.size + 1 + 1) #[.slice a6 (fitL max (⟨f.n, f.v, false⟩ :: fs)).length c6, .int .i64 max]
      have hbw6 : Below w.heap.size w w6 := hbw2.trans (hB26.mono hbw2.size)
      have hz5 : w.heap.size ≤ w5.heap.size := Nat.le_trans hbw2.size hB25.size
      refine bodyPost_ret (results_cell_row rfl _ _ (w.heap.size + 1 + 1) 29 #[.slice a6 (fitL max (⟨f.n, f.v, false⟩ :: fs)).length c6, .int .i64 max] (0, 0) _ rfl (setRow_heap _ _ _ _ _ _ hR6) Try.underlying29 rfl infoT2) rfl ⟨_, rfl, own_baseT (hown6.kept hg (.inr (fun e => not_rowT hR6 (by decide) hown6 e.symm))) hz5, hbw6.grown hg hbw6.size (fun q hq => by injection hq with hq; omega)⟩

set_option maxRecDepth 100000 in
set_option maxHeartbeats 1000000 in
theorem implTableLimit (fs : List Fd) (a : Option Addr) (n cap : Nat) (max most : Int) (w : World) (hf : Fs w a n cap fs) (hbd : fsBd fs) (hn : n ≤ 1048576) :
    Calls Try.prog 20 #[.agg #[.slice a n cap, .int .i64 max], .int .i64 most] w (TabAns w (limV fs max most)) := by
  have hok := fun (w' : World) (h : Fs w' a n cap fs) => implTableOk fs a n cap max w' h hbd hn
  have hin := fun (w' : World) => tableMaxOk_any most w'
  have HF : Hid (Fs w a n cap fs) := hf
  have HB : Hid (fsBd fs) := hbd
  have hlen := hf.len
  clear hf hbd
  have hb2 : Below w.heap.size w ((w.alloc (.cells #[.slice a n cap, .int .i64 max] 29)).alloc (.cells #[.slice none 0 0, .int .i64 0] 29)) := ((Below.refl _ _).alloc (Nat.le_refl _) _).alloc (by simp) _
  have hT : Hid (((w.alloc (.cells #[.slice a n cap, .int .i64 max] 29)).alloc (.cells #[.slice none 0 0, .int .i64 0] 29)).heap[w.heap.size]? = some (.cells #[.slice a n cap, .int .i64 max] 29 (0, 0))) := blkT (heap_alloc_last w _) _
  have hR : Hid (((w.alloc (.cells #[.slice a n cap, .int .i64 max] 29)).alloc (.cells #[.slice none 0 0, .int .i64 0] 29)).heap[w.heap.size + 1]? = some (.cells #[.slice none 0 0, .int .i64 0] 29 (0, 0))) := by
    have h := heap_alloc_last (w.alloc (.cells #[.slice a n cap, .int .i64 max] 29)) (.cells #[.slice none 0 0, .int .i64 0] 29)
    rw [World.size_alloc] at h
    exact h
  cases ht : tOk fs max with
  | false =>
    rw [ht] at hok
    have hv : limV fs max most = ([], 0) := by unfold limV; rw [ht]; rfl
    rw [hv]
    clear ht hv hin
    go_enter Try.func20, Try.ntmps20
    go_wp2_with (first | (go_at_call 11; refine (hok _ (HF.out.below hb2)).mono ?_; clear hok; rintro e w1 ⟨rfl, hb1⟩; have hR1 := (hb1.block _ (Array.getElem?_eq_some_iff.1 hR.out).1).trans hR.out) | (refine wpList_store_row rfl 29 _ _ rfl (w.heap.size + 1) #[.slice none 0 0, .int .i64 0] rfl rfl 29 _ hR1 infoT2 rfl (by simp [Value.oneCell']) ?_))
    refine bodyPost_ret (results_cell_row rfl _ _ (w.heap.size + 1) 29 #[.slice none 0 0, .int .i64 0] (0, 0) _ rfl (setRow_heap _ _ _ _ _ _ hR1) Try.underlying29 rfl infoT2) rfl ⟨_, rfl, World.ownsRow_nil _ _ _ _, (hb2.trans (hb1.mono hb2.size)).grown (grown_setRowT _ _ _) (Nat.le_trans hb2.size hb1.size) (fun q hq => by injection hq with hq; omega)⟩
  | true =>
    rw [ht] at hok
    have hkept := tOk_kept ht
    have hl16 := tOk_len ht
    cases hi : (decide (0 ≤ most) && decide (most ≤ 64)) with
    | false =>
      rw [hi] at hin
      have hv : limV fs max most = ([], 0) := by unfold limV; rw [ht, hi]; rfl
      rw [hv]
      clear ht hv hi hkept
      go_enter Try.func20, Try.ntmps20
      go_wp2_with (first | (go_at_call 11; refine (hok _ (HF.out.below hb2)).mono ?_; clear hok; rintro e w1 ⟨rfl, hb1⟩; have hR1 := (hb1.block _ (Array.getElem?_eq_some_iff.1 hR.out).1).trans hR.out) | (go_at_call 31; refine (hin _).mono ?_; clear hin; rintro e wi ⟨rfl, rfl⟩) | (refine wpList_store_row rfl 29 _ _ rfl (w.heap.size + 1) #[.slice none 0 0, .int .i64 0] rfl rfl 29 _ hR1 infoT2 rfl (by simp [Value.oneCell']) ?_))
      refine bodyPost_ret (results_cell_row rfl _ _ (w.heap.size + 1) 29 #[.slice none 0 0, .int .i64 0] (0, 0) _ rfl (setRow_heap _ _ _ _ _ _ hR1) Try.underlying29 rfl infoT2) rfl ⟨_, rfl, World.ownsRow_nil _ _ _ _, (hb2.trans (hb1.mono hb2.size)).grown (grown_setRowT _ _ _) (Nat.le_trans hb2.size hb1.size) (fun q hq => by injection hq with hq; omega)⟩
    | true =>
      rw [hi] at hin
      have hv : limV fs max most = (fitL most fs, most) := by unfold limV; rw [ht, hi]; rfl
      rw [hv]
      have hmo : 0 ≤ most ∧ most ≤ 64 := by simpa using hi
      have hring := fun (w' : World) (h : Fs w' a n cap fs) => tableRing_any fs a n cap max w' h hkept (by omega)
      have hfit := fun (base B g fi : Nat) (w' : World) (h : Rg base w' B g (n + 1) fi fs) (hb : base ≤ w'.heap.size) => tableFit_any base B g (n + 1) fi fs most w' h hb HB.out hmo.1 (by omega)
      have HKP : Hid (fsKept fs) := hkept
      clear ht hv hi hmo hkept
      go_enter Try.func20, Try.ntmps20
      go_wp2_with (first | (go_at_call 11; refine (hok _ (HF.out.below hb2)).mono ?_; clear hok; rintro e w1 ⟨rfl, hb1⟩; have hR1 := (hb1.block _ (Array.getElem?_eq_some_iff.1 hR.out).1).trans hR.out; have hT1 := (hb1.block _ (Array.getElem?_eq_some_iff.1 hT.out).1).trans hT.out; have t0 := cell_of_row _ _ 0 _ _ _ hT1; have t1 := cell_of_row _ _ 1 _ _ _ hT1; have hbw1 := hb2.trans (hb1.mono hb2.size)) | (go_at_call 31; refine (hin _).mono ?_; clear hin; rintro e wi ⟨rfl, rfl⟩) | (go_at_call 36; refine (hring _ (HF.out.below hbw1)).mono ?_; clear hring; rintro e w3 ⟨B, g, fi, rfl, hG3, hb3⟩) | (go_at_call 39; refine (hfit _ _ _ _ _ hG3 hb3.size).mono ?_; clear hfit; rintro e w4 ⟨v4, rfl, hown4, hb4⟩; obtain ⟨a4, c4, rfl⟩ := own_formT hown4; have hB4 := hb3.trans hb4; have hR4 := (hB4.block _ (Array.getElem?_eq_some_iff.1 hR1).1).trans hR1) | (refine wpList_store_row rfl 29 _ _ rfl (w.heap.size + 1) #[.slice a4 (fitL most fs).length c4, .int .i64 most] rfl rfl 29 _ hR4 infoT2 rfl (by simp [Value.oneCell']) ?_))
      have hg := grown_setRowT w4 (w.heap.size + 1) #[.slice a4 (fitL most fs).length c4, .int .i64 most]
      have hbw4 : Below w.heap.size w w4 := hbw1.trans (hB4.mono hbw1.size)
      have hz3 : w.heap.size ≤ w3.heap.size := Nat.le_trans hbw1.size hb3.size
      refine bodyPost_ret (results_cell_row rfl _ _ (w.heap.size + 1) 29 #[.slice a4 (fitL most fs).length c4, .int .i64 most] (0, 0) _ rfl (setRow_heap _ _ _ _ _ _ hR4) Try.underlying29 rfl infoT2) rfl ⟨_, rfl, own_baseT (hown4.kept hg (.inr (fun e => not_rowT hR4 (by decide) hown4 e.symm))) hz3, hbw4.grown hg hbw4.size (fun q hq => by injection hq with hq; omega)⟩
end Go.Proofs.Ytafhpcgdlmkbeay
