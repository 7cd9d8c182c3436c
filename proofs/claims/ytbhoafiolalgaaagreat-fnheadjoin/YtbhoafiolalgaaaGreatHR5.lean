import Derived.Test.YtbhoafiolalgaaaGreatHR4
namespace Go.Proofs.YtbhoafiolalgaaaGreat
open Go.RowKit
set_option linter.unusedVariables false

set_option maxRecDepth 100000 in
set_option maxHeartbeats 4000000 in
theorem specHeadRead (fs : List Fd) (a : Option Addr) (n cap : Nat) (max : Int) (s : ByteArray) (w : World) (hf : Fs w a n cap fs) (hbd : fsBd fs) (hn : n ≤ 1048576) (hs : s.size ≤ maxLen) :
    Calls Tryz.prog 5 #[.agg #[.slice a n cap, .int .i64 max], .string s] w (HrAns w (hRd fs max s)) := by
  have hok := fun (w' : World) (h' : Fs w' a n cap fs) => specTableOk fs a n cap max w' h' hbd hn
  unfold maxLen at hs
  have HF : Hid (Fs w a n cap fs) := hf
  clear hf hbd
  have hb2 : Below w.heap.size w ((w.alloc (.cells #[.slice a n cap, .int .i64 max] 25)).alloc (.cells #[.slice none 0 0, .int .i64 0] 25)) := ((Below.refl _ _).alloc (Nat.le_refl _) _).alloc (by simp) _
  have hT : Hid (((w.alloc (.cells #[.slice a n cap, .int .i64 max] 25)).alloc (.cells #[.slice none 0 0, .int .i64 0] 25)).heap[w.heap.size]? = some (.cells #[.slice a n cap, .int .i64 max] 25 (0, 0))) := blkT (heap_alloc_last w _) _
  have hR : Hid (((w.alloc (.cells #[.slice a n cap, .int .i64 max] 25)).alloc (.cells #[.slice none 0 0, .int .i64 0] 25)).heap[w.heap.size + 1]? = some (.cells #[.slice none 0 0, .int .i64 0] 25 (0, 0))) := by
    have h := heap_alloc_last (w.alloc (.cells #[.slice a n cap, .int .i64 max] 25)) (.cells #[.slice none 0 0, .int .i64 0] 25)
    rw [World.size_alloc] at h
    exact h
  have hmx : Tryz.prog.follows .mixedOrders = true := by kernel_rfl
  by_cases hc : (tOk fs max && decide (s.size ≤ 250)) = true
  · rw [Bool.and_eq_true, decide_eq_true_eq] at hc
    obtain ⟨ht, h250⟩ := hc
    rw [ht] at hok
    have hval : hRd fs max s = ansOf max (rdH 6 fs max (bytesL s)) := by
      unfold hRd
      rw [ht, decide_eq_true h250]
      cases rdH 6 fs max (bytesL s) <;> rfl
    rw [hval]
    have hn16 := tOk_len ht
    have hln := HF.out.len
    have hall := fun (w' : World) (a' : Option Addr) (n' c' : Nat) (h1 : Fs w' a' n' c' fs) => l11Read_any fs a' n' c' max s w' h1 ht (by omega)
    obtain ⟨⟨⟨ys, mx⟩, hd, okr⟩, hys⟩ : ∃ x, ansOf max (rdH 6 fs max (bytesL s)) = x := ⟨_, rfl⟩
    rw [hys] at hall ⊢
    unfold HrAns at hall ⊢
    dsimp only at hall ⊢
    have h250' : ¬ (250 : Int) < s.size := by omega
    clear ht hys hval
    go_enter Tryz.func5, Tryz.ntmps5
    go_wp2_with (go_at_call 20; refine (hok _ (HF.out.below hb2)).mono ?_; clear hok; rintro e W0 ⟨rfl, hb1⟩; have hbw2 := bt' hb2 hb1; have hT1 := blkH hb1 hT.out; have hR1 := blkH hb1 hR.out)
    have hz : w.heap.size + 1 + 1 ≤ W0.heap.size := by
      have := hb1.size
      simp at *
      omega
    have hbd : Below w.heap.size w W0.drew := hbw2.drew
    have hTd : W0.drew.heap[w.heap.size]? = some (.cells #[.slice a n cap, .int .i64 max] 25 (0, 0)) := hT1
    have hRd : W0.drew.heap[w.heap.size + 1]? = some (.cells #[.slice none 0 0, .int .i64 0] 25 (0, 0)) := hR1
    have hFd : Fs W0.drew a n cap fs := HF.out.below hbd
    have hba : Below W0.drew.heap.size W0.drew (W0.drew.alloc (.cells #[] 52)) := (Below.refl _ _).alloc (Nat.le_refl _) _
    obtain ⟨q1, q2⟩ := row2c hTd
    obtain ⟨q3, q4⟩ := row2c (blkH hba hTd)
    have hz0 := own_zero3 W0.drew 52
    clear hb1 hT1 hR1
    go_region_held3 (fun w' => w'.cell? ⟨w.heap.size, 0, none⟩ = some (.slice a n cap) ∧ w'.cell? ⟨w.heap.size, 1, none⟩ = some (.int .i64 max)) (first | exact ⟨q1, q2⟩ | exact ⟨q3, q4⟩ | exact row2c hT4 | exact row2c hT5 | exact (by rw [cell_set _ _ _ _ (by show w.heap.size ≠ w.heap.size + 1; omega), cell_set _ _ _ _ (by show w.heap.size ≠ w.heap.size + 1; omega), cell_set _ _ _ _ (by show w.heap.size ≠ w.heap.size + 1; omega), cell_set _ _ _ _ (by show w.heap.size ≠ w.heap.size + 1; omega)]; exact row2c hT5)) ((first | (go_at_call 21; refine (hall _ _ _ _ hFs4).mono ?_; rintro e w5 ⟨a5, n5, c5, a6, n6, c6, rfl, hF5, hF6, hb5⟩; have hT5 := blkH hb5 hT4; have hR5 := blkH hb5 hR4; obtain ⟨r0, r1⟩ := row2c hR5; have f0 := frz 0 hR5; have f1 := frz 1 hR5) | (refine step_appFs _ (by rfl) _ _ (by rfl) W0.drew.heap.size _ _ _ (by rfl) hz0 a n cap fs (by rfl) (hFd.below hba) (by omega) hba.size ?_; intro v4 w4 hown4 hgrow4; rw [Nat.zero_add, List.nil_append] at hown4; obtain ⟨a4, c4, rfl⟩ := own_formT hown4; have hFs4 := own_Fs hown4; have hb4 : Below W0.drew.heap.size W0.drew w4 := hba.grown hgrow4 hba.size (fun q hq => by injection hq with hq; rw [← hq]; exact Nat.le_refl _); have hT4 := blkH hb4 hTd; have hR4 := blkH hb4 hRd)))
    go_wp2
    have hbw5 := bt' (bt' hbd hb4) hb5
    refine bodyPost_ret (results_cell_tmp2 rfl _ _ (w.heap.size + 1) #[.slice a5 n5 c5, .int .i64 mx] rfl (load_tab (set2_heap _ _ hR5))) rfl ⟨a5, n5, c5, a6, n6, c6, rfl, hF5.set2 _ _ hR5 0 1, hF6.set2 _ _ hR5 0 1, (hbw5.setCell (p := ⟨w.heap.size + 1, 0, none⟩) (by show w.heap.size ≤ w.heap.size + 1; omega) _).setCell (p := ⟨w.heap.size + 1, 1, none⟩) (by show w.heap.size ≤ w.heap.size + 1; omega) _⟩
  · have hc' : (tOk fs max && decide (s.size ≤ 250)) = false := by simpa using hc
    rw [hRd_bad hc']
    unfold HrAns
    dsimp only
    cases ht : tOk fs max with
    | false =>
      rw [ht] at hok
      clear ht hc hc'
      go_enter Tryz.func5, Tryz.ntmps5
      go_wp2_with (go_at_call 20; refine (hok _ (HF.out.below hb2)).mono ?_; clear hok; rintro e w1 ⟨rfl, hb1⟩; have hR1 := blkT (blkH hb1 hR.out) (.cells #[] 52); obtain ⟨r0, r1⟩ := row2c hR1; have f0 := frz 0 hR1; have f1 := frz 1 hR1)
      have hbw0 := bt' hb2 hb1
      have hbw1 := hbw0.alloc hbw0.size (.cells #[] 52)
      refine bodyPost_ret (results_cell_tmp2 rfl _ _ (w.heap.size + 1) #[.slice none 0 0, .int .i64 0] rfl (load_tab (set2_heap _ _ hR1))) rfl ⟨none, 0, 0, _, 0, 0, rfl, Fs_nil _, Fs_nil2 _ _ _, (hbw1.setCell (p := ⟨w.heap.size + 1, 0, none⟩) (by show w.heap.size ≤ w.heap.size + 1; omega) _).setCell (p := ⟨w.heap.size + 1, 1, none⟩) (by show w.heap.size ≤ w.heap.size + 1; omega) _⟩
    | true =>
      rw [ht] at hok
      rw [ht, Bool.true_and, decide_eq_false_iff_not] at hc'
      have h250' : (250 : Int) < s.size := by omega
      clear ht hc
      go_enter Tryz.func5, Tryz.ntmps5
      go_wp2_with (go_at_call 20; refine (hok _ (HF.out.below hb2)).mono ?_; clear hok; rintro e w1 ⟨rfl, hb1⟩; have hR1 := blkT (blkH hb1 hR.out) (.cells #[] 52); obtain ⟨r0, r1⟩ := row2c hR1; have f0 := frz 0 hR1; have f1 := frz 1 hR1)
      have hbw0 := bt' hb2 hb1
      have hbw1 := hbw0.alloc hbw0.size (.cells #[] 52)
      refine bodyPost_ret (results_cell_tmp2 rfl _ _ (w.heap.size + 1) #[.slice none 0 0, .int .i64 0] rfl (load_tab (set2_heap _ _ hR1))) rfl ⟨none, 0, 0, _, 0, 0, rfl, Fs_nil _, Fs_nil2 _ _ _, (hbw1.setCell (p := ⟨w.heap.size + 1, 0, none⟩) (by show w.heap.size ≤ w.heap.size + 1; omega) _).setCell (p := ⟨w.heap.size + 1, 1, none⟩) (by show w.heap.size ≤ w.heap.size + 1; omega) _⟩
end Go.Proofs.YtbhoafiolalgaaaGreat
