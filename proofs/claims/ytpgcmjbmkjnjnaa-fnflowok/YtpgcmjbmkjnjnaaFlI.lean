import Derived.Test.YtpgcmjbmkjnjnaaFlI2
namespace Go.Proofs.Ytpgcmjbmkjnjnaa
open Go.RowKit
set_option linter.unusedVariables false

set_option maxRecDepth 100000 in
set_option maxHeartbeats 1000000 in
theorem implFlowSend (f : Fw) (n : Int) (w : World) :
    Calls Try.prog 16 #[f.val, .int .i64 n] w fun e w' => e = .returned (.tuple #[(flSend f n).1.val, .bool (flSend f n).2]) ∧ Below w.heap.size w w' := by
  obtain ⟨s, r⟩ := f
  have hbh := fun w => behindSend ⟨s, r⟩ n w
  unfold Fw.val at hbh ⊢
  have hA : Below w.heap.size w (w.alloc (.cells #[.int .i64 s, .int .i64 r] 24)) := (Below.refl _ _).alloc (Nat.le_refl _) _
  have hB : Below w.heap.size w ((w.alloc (.cells #[.int .i64 s, .int .i64 r] 24)).alloc (.cells #[.int .i64 0, .int .i64 0] 24)) := hA.alloc (by rw [World.size_alloc]; omega) _
  have hF : ((w.alloc (.cells #[.int .i64 s, .int .i64 r] 24)).alloc (.cells #[.int .i64 0, .int .i64 0] 24)).heap[w.heap.size]? = some (.cells #[.int .i64 s, .int .i64 r] 24 (0, 0)) := blkF ((Below.refl _ _).alloc (Nat.le_refl _) _) (heap_alloc_last w _)
  have hR : ((w.alloc (.cells #[.int .i64 s, .int .i64 r] 24)).alloc (.cells #[.int .i64 0, .int .i64 0] 24)).heap[w.heap.size + 1]? = some (.cells #[.int .i64 0, .int .i64 0] 24 (0, 0)) := by
    have h := heap_alloc_last (w.alloc (.cells #[.int .i64 s, .int .i64 r] 24)) (.cells #[.int .i64 0, .int .i64 0] 24)
    rw [World.size_alloc] at h
    exact h
  have hY : ((w.alloc (.cells #[.int .i64 s, .int .i64 r] 24)).alloc (.cells #[.int .i64 0, .int .i64 0] 24)).heap.size = w.heap.size + 2 := by rw [World.size_alloc, World.size_alloc]
  clear hA
  obtain ⟨⟨⟨gx, gy⟩, gc⟩, hX⟩ : ∃ A, flSend ⟨s, r⟩ n = A := ⟨_, rfl⟩
  rw [hX] at hbh ⊢
  clear hX
  dsimp only at hbh ⊢
  go_enter Try.func16, Try.ntmps16
  go_upto_region 1 with fail
  refine wabsW (fun V => V.heap[w.heap.size]? = some (.cells #[.int .i64 s, .int .i64 r] 24 (0, 0)) ∧ V.heap[w.heap.size + 1]? = some (.cells #[.int .i64 0, .int .i64 0] 24 (0, 0)) ∧ V.heap.size = w.heap.size + 2 ∧ Below w.heap.size w V) ⟨hF, hR, hY, hB⟩ ?_
  clear hF hR hB hY
  rintro V ⟨hF, hR, hZ, hB⟩
  obtain ⟨p0, p1, p2, p3⟩ := row2w hF
  go_wp2_with fail
  refine (hbh _).mono ?_
  clear hbh
  rintro e w1 ⟨rfl, hb⟩
  replace hR := blkF hb hR
  replace hB := btF hB hb
  obtain ⟨q0, q1, q2, q3⟩ := row2w hR
  clear hb p0 p1 p2 p3
  go_wp2
  exact bodyPost_ret (results_ctW rfl _ _ (w.heap.size + 1) #[.int .i64 gx, .int .i64 gy] rfl (load_fw (set2W _ _ hR))) rfl ⟨rfl, belW1 (belW1 hB (by omega) _) (by omega) _⟩

set_option maxRecDepth 100000 in
set_option maxHeartbeats 1000000 in
theorem implFlowGot (f : Fw) (n : Int) (w : World) :
    Calls Try.prog 24 #[f.val, .int .i64 n] w fun e w' => e = .returned (.tuple #[(flGot f n).1.val, .bool (flGot f n).2]) ∧ Below w.heap.size w w' := by
  obtain ⟨s, r⟩ := f
  have hbh := fun w => behindGot ⟨s, r⟩ n w
  unfold Fw.val at hbh ⊢
  have hA : Below w.heap.size w (w.alloc (.cells #[.int .i64 s, .int .i64 r] 24)) := (Below.refl _ _).alloc (Nat.le_refl _) _
  have hB : Below w.heap.size w ((w.alloc (.cells #[.int .i64 s, .int .i64 r] 24)).alloc (.cells #[.int .i64 0, .int .i64 0] 24)) := hA.alloc (by rw [World.size_alloc]; omega) _
  have hF : ((w.alloc (.cells #[.int .i64 s, .int .i64 r] 24)).alloc (.cells #[.int .i64 0, .int .i64 0] 24)).heap[w.heap.size]? = some (.cells #[.int .i64 s, .int .i64 r] 24 (0, 0)) := blkF ((Below.refl _ _).alloc (Nat.le_refl _) _) (heap_alloc_last w _)
  have hR : ((w.alloc (.cells #[.int .i64 s, .int .i64 r] 24)).alloc (.cells #[.int .i64 0, .int .i64 0] 24)).heap[w.heap.size + 1]? = some (.cells #[.int .i64 0, .int .i64 0] 24 (0, 0)) := by
    have h := heap_alloc_last (w.alloc (.cells #[.int .i64 s, .int .i64 r] 24)) (.cells #[.int .i64 0, .int .i64 0] 24)
    rw [World.size_alloc] at h
    exact h
  have hY : ((w.alloc (.cells #[.int .i64 s, .int .i64 r] 24)).alloc (.cells #[.int .i64 0, .int .i64 0] 24)).heap.size = w.heap.size + 2 := by rw [World.size_alloc, World.size_alloc]
  clear hA
  obtain ⟨⟨⟨gx, gy⟩, gc⟩, hX⟩ : ∃ A, flGot ⟨s, r⟩ n = A := ⟨_, rfl⟩
  rw [hX] at hbh ⊢
  clear hX
  dsimp only at hbh ⊢
  go_enter Try.func24, Try.ntmps24
  go_upto_region 1 with fail
  refine wabsW (fun V => V.heap[w.heap.size]? = some (.cells #[.int .i64 s, .int .i64 r] 24 (0, 0)) ∧ V.heap[w.heap.size + 1]? = some (.cells #[.int .i64 0, .int .i64 0] 24 (0, 0)) ∧ V.heap.size = w.heap.size + 2 ∧ Below w.heap.size w V) ⟨hF, hR, hY, hB⟩ ?_
  clear hF hR hB hY
  rintro V ⟨hF, hR, hZ, hB⟩
  obtain ⟨p0, p1, p2, p3⟩ := row2w hF
  go_wp2_with fail
  refine (hbh _).mono ?_
  clear hbh
  rintro e w1 ⟨rfl, hb⟩
  replace hR := blkF hb hR
  replace hB := btF hB hb
  obtain ⟨q0, q1, q2, q3⟩ := row2w hR
  clear hb p0 p1 p2 p3
  go_wp2
  exact bodyPost_ret (results_ctW rfl _ _ (w.heap.size + 1) #[.int .i64 gx, .int .i64 gy] rfl (load_fw (set2W _ _ hR))) rfl ⟨rfl, belW1 (belW1 hB (by omega) _) (by omega) _⟩

set_option maxRecDepth 100000 in
set_option maxHeartbeats 1000000 in
theorem implFlowMore_0 (f : Fw) (n : Int) (w : World) (h0 : n ≠ 0) :
    Calls Try.prog 21 #[f.val, .int .i64 n] w fun e w' => e = .returned (.tuple #[(flMore f n).1.val, .bool (flMore f n).2]) ∧ Below w.heap.size w w' := by
  obtain ⟨s, r⟩ := f
  have hbh := fun w => behindMore ⟨s, r⟩ n w h0
  unfold Fw.val at hbh ⊢
  have hA : Below w.heap.size w (w.alloc (.cells #[.int .i64 s, .int .i64 r] 24)) := (Below.refl _ _).alloc (Nat.le_refl _) _
  have hB : Below w.heap.size w ((w.alloc (.cells #[.int .i64 s, .int .i64 r] 24)).alloc (.cells #[.int .i64 0, .int .i64 0] 24)) := hA.alloc (by rw [World.size_alloc]; omega) _
  have hF : ((w.alloc (.cells #[.int .i64 s, .int .i64 r] 24)).alloc (.cells #[.int .i64 0, .int .i64 0] 24)).heap[w.heap.size]? = some (.cells #[.int .i64 s, .int .i64 r] 24 (0, 0)) := blkF ((Below.refl _ _).alloc (Nat.le_refl _) _) (heap_alloc_last w _)
  have hR : ((w.alloc (.cells #[.int .i64 s, .int .i64 r] 24)).alloc (.cells #[.int .i64 0, .int .i64 0] 24)).heap[w.heap.size + 1]? = some (.cells #[.int .i64 0, .int .i64 0] 24 (0, 0)) := by
    have h := heap_alloc_last (w.alloc (.cells #[.int .i64 s, .int .i64 r] 24)) (.cells #[.int .i64 0, .int .i64 0] 24)
    rw [World.size_alloc] at h
    exact h
  have hY : ((w.alloc (.cells #[.int .i64 s, .int .i64 r] 24)).alloc (.cells #[.int .i64 0, .int .i64 0] 24)).heap.size = w.heap.size + 2 := by rw [World.size_alloc, World.size_alloc]
  clear hA
  obtain ⟨⟨⟨gx, gy⟩, gc⟩, hX⟩ : ∃ A, flMore ⟨s, r⟩ n = A := ⟨_, rfl⟩
  rw [hX] at hbh ⊢
  clear hX
  dsimp only at hbh ⊢
  go_enter Try.func21, Try.ntmps21
  go_upto_region 1 with fail
  refine wabsW (fun V => V.heap[w.heap.size]? = some (.cells #[.int .i64 s, .int .i64 r] 24 (0, 0)) ∧ V.heap[w.heap.size + 1]? = some (.cells #[.int .i64 0, .int .i64 0] 24 (0, 0)) ∧ V.heap.size = w.heap.size + 2 ∧ Below w.heap.size w V) ⟨hF, hR, hY, hB⟩ ?_
  clear hF hR hB hY
  rintro V ⟨hF, hR, hZ, hB⟩
  obtain ⟨p0, p1, p2, p3⟩ := row2w hF
  go_wp2_with fail
  refine (hbh _).mono ?_
  clear hbh
  rintro e w1 ⟨rfl, hb⟩
  replace hR := blkF hb hR
  replace hB := btF hB hb
  obtain ⟨q0, q1, q2, q3⟩ := row2w hR
  clear hb p0 p1 p2 p3
  go_wp2
  exact bodyPost_ret (results_ctW rfl _ _ (w.heap.size + 1) #[.int .i64 gx, .int .i64 gy] rfl (load_fw (set2W _ _ hR))) rfl ⟨rfl, belW1 (belW1 hB (by omega) _) (by omega) _⟩

set_option maxRecDepth 100000 in
set_option maxHeartbeats 1000000 in
theorem implFlowMore (f : Fw) (n : Int) (w : World) :
    Calls Try.prog 21 #[f.val, .int .i64 n] w fun e w' => e = .returned (.tuple #[(flMore f n).1.val, .bool (flMore f n).2]) ∧ Below w.heap.size w w' := by
  by_cases h0 : n = 0
  · subst h0
    rw [flMore_no (by omega)]
    unfold zFw
    obtain ⟨s, r⟩ := f
    unfold Fw.val
    dsimp only
    have hA : Below w.heap.size w (w.alloc (.cells #[.int .i64 s, .int .i64 r] 24)) := (Below.refl _ _).alloc (Nat.le_refl _) _
    have hB : Below w.heap.size w ((w.alloc (.cells #[.int .i64 s, .int .i64 r] 24)).alloc (.cells #[.int .i64 0, .int .i64 0] 24)) := hA.alloc (by rw [World.size_alloc]; omega) _
    have hR : ((w.alloc (.cells #[.int .i64 s, .int .i64 r] 24)).alloc (.cells #[.int .i64 0, .int .i64 0] 24)).heap[w.heap.size + 1]? = some (.cells #[.int .i64 0, .int .i64 0] 24 (0, 0)) := by
      have h := heap_alloc_last (w.alloc (.cells #[.int .i64 s, .int .i64 r] 24)) (.cells #[.int .i64 0, .int .i64 0] 24)
      rw [World.size_alloc] at h
      exact h
    clear hA
    go_enter Try.func21, Try.ntmps21
    go_upto_region 1 with fail
    refine wabsW (fun V => V.heap[w.heap.size + 1]? = some (.cells #[.int .i64 0, .int .i64 0] 24 (0, 0)) ∧ Below w.heap.size w V) ⟨hR, hB⟩ ?_
    clear hR hB
    rintro V ⟨hR, hB⟩
    obtain ⟨q0, q1, q2, q3⟩ := row2w hR
    go_wp2
    exact bodyPost_ret (results_ctW rfl _ _ (w.heap.size + 1) #[.int .i64 0, .int .i64 0] rfl (load_fw (set2W _ _ hR))) rfl ⟨rfl, belW1 (belW1 hB (by omega) _) (by omega) _⟩
  · exact implFlowMore_0 f n w h0

set_option maxRecDepth 100000 in
set_option maxHeartbeats 1000000 in
theorem implFlowGive (f : Fw) (n : Int) (w : World) :
    Calls Try.prog 25 #[f.val, .int .i64 n] w fun e w' => e = .returned (.tuple #[(flGive f n).1.val, .int .i64 (flGive f n).2]) ∧ Below w.heap.size w w' := by
  obtain ⟨s, r⟩ := f
  have hbh := fun w => behindGive ⟨s, r⟩ n w
  unfold Fw.val at hbh ⊢
  have hA : Below w.heap.size w (w.alloc (.cells #[.int .i64 s, .int .i64 r] 24)) := (Below.refl _ _).alloc (Nat.le_refl _) _
  have hB : Below w.heap.size w ((w.alloc (.cells #[.int .i64 s, .int .i64 r] 24)).alloc (.cells #[.int .i64 0, .int .i64 0] 24)) := hA.alloc (by rw [World.size_alloc]; omega) _
  have hF : ((w.alloc (.cells #[.int .i64 s, .int .i64 r] 24)).alloc (.cells #[.int .i64 0, .int .i64 0] 24)).heap[w.heap.size]? = some (.cells #[.int .i64 s, .int .i64 r] 24 (0, 0)) := blkF ((Below.refl _ _).alloc (Nat.le_refl _) _) (heap_alloc_last w _)
  have hR : ((w.alloc (.cells #[.int .i64 s, .int .i64 r] 24)).alloc (.cells #[.int .i64 0, .int .i64 0] 24)).heap[w.heap.size + 1]? = some (.cells #[.int .i64 0, .int .i64 0] 24 (0, 0)) := by
    have h := heap_alloc_last (w.alloc (.cells #[.int .i64 s, .int .i64 r] 24)) (.cells #[.int .i64 0, .int .i64 0] 24)
    rw [World.size_alloc] at h
    exact h
  have hY : ((w.alloc (.cells #[.int .i64 s, .int .i64 r] 24)).alloc (.cells #[.int .i64 0, .int .i64 0] 24)).heap.size = w.heap.size + 2 := by rw [World.size_alloc, World.size_alloc]
  clear hA
  dsimp only at hbh ⊢
  by_cases hc : flOk ⟨s, r⟩ = true ∧ 0 ≤ n ∧ n ≤ 31
  · obtain ⟨ho, hn⟩ := hc
    have hbd := flOk_iff.1 ho
    dsimp only at hbd
    have hg : ∃ y d, flGive ⟨s, r⟩ n = (⟨s, y⟩, d) ∧ IntKind.i64.wrap (y - r) = d := by
      by_cases hl : r < n
      · exact ⟨n, n - r, flGive_less ho hn.1 hn.2 hl, by rw [IntKind.wrap_i64]; omega⟩
      · exact ⟨r, 0, flGive_same ho hn.1 hn.2 hl, by rw [IntKind.wrap_i64]; omega⟩
    obtain ⟨y, d, hX, hd⟩ := hg
    rw [hX, ho, decide_eq_true hn, Bool.and_true] at hbh
    rw [hX]
    clear hX ho hn hbd
    dsimp only at hbh ⊢
    go_enter Try.func25, Try.ntmps25
    go_upto_region 1 with fail
    refine wabsW (fun V => V.heap[w.heap.size]? = some (.cells #[.int .i64 s, .int .i64 r] 24 (0, 0)) ∧ V.heap[w.heap.size + 1]? = some (.cells #[.int .i64 0, .int .i64 0] 24 (0, 0)) ∧ V.heap.size = w.heap.size + 2 ∧ Below w.heap.size w V) ⟨hF, hR, hY, hB⟩ ?_
    clear hF hR hB hY
    rintro V ⟨hF, hR, hZ, hB⟩
    obtain ⟨p0, p1, p2, p3⟩ := row2w hF
    go_wp2_with fail
    refine (hbh _).mono ?_
    clear hbh
    rintro e w1 ⟨rfl, hb⟩
    replace hF := blkF hb hF
    replace hR := blkF hb hR
    replace hB := btF hB hb
    have hz1 : w.heap.size + 2 ≤ w1.heap.size := by have := hb.size; omega
    clear hb p0 p1 p2 p3 hZ
    have hC1 := heap_alloc_last w1 (.cells #[.int .i64 s, .int .i64 y] 24)
    have hF1 := blkF ((Below.refl _ w1).alloc (Nat.le_refl _) (.cells #[.int .i64 s, .int .i64 y] 24)) hF
    have hR1 := blkF ((Below.refl _ w1).alloc (Nat.le_refl _) (.cells #[.int .i64 s, .int .i64 y] 24)) hR
    have hB1 : Below w.heap.size w (w1.alloc (.cells #[.int .i64 s, .int .i64 y] 24)) := hB.alloc (by omega) _
    go_upto_region 2 with fail
    refine wabsW (fun V => V.heap[w.heap.size]? = some (.cells #[.int .i64 s, .int .i64 r] 24 (0, 0)) ∧ V.heap[w.heap.size + 1]? = some (.cells #[.int .i64 0, .int .i64 0] 24 (0, 0)) ∧ V.heap[w1.heap.size]? = some (.cells #[.int .i64 s, .int .i64 y] 24 (0, 0)) ∧ Below w.heap.size w V) ⟨hF1, hR1, hC1, hB1⟩ ?_
    clear hF hR hB hF1 hR1 hC1 hB1
    rintro V ⟨hF, hR, hC, hB⟩
    obtain ⟨p0, p1, p2, p3⟩ := row2w hF
    obtain ⟨q0, q1, q2, q3⟩ := row2w hR
    obtain ⟨c0, c1, c2, c3⟩ := row2w hC
    go_upto_region 4 with fail
    have hmx : Try.prog.follows .mixedOrders = true := by kernel_rfl
    go_region
    all_goals
      go_wp2
      exact bodyPost_ret (results_ctW rfl _ _ (w.heap.size + 1) #[.int .i64 s, .int .i64 y] rfl (load_fw (set2W _ _ hR))) rfl ⟨rfl, (belW1 (belW1 hB (by omega) _) (by omega) _).drew⟩
  · rw [flGive_no hc]
    unfold zFw
    dsimp only
    have hbf : (flOk ⟨s, r⟩ && decide (0 ≤ n ∧ n ≤ 31)) = false := by
      rw [← Bool.not_eq_true, Bool.and_eq_true, decide_eq_true_eq]
      exact hc
    rw [hbf, flGive_no hc] at hbh
    unfold zFw at hbh
    dsimp only at hbh
    clear hbf hc
    go_enter Try.func25, Try.ntmps25
    go_upto_region 1 with fail
    refine wabsW (fun V => V.heap[w.heap.size]? = some (.cells #[.int .i64 s, .int .i64 r] 24 (0, 0)) ∧ V.heap[w.heap.size + 1]? = some (.cells #[.int .i64 0, .int .i64 0] 24 (0, 0)) ∧ V.heap.size = w.heap.size + 2 ∧ Below w.heap.size w V) ⟨hF, hR, hY, hB⟩ ?_
    clear hF hR hB hY
    rintro V ⟨hF, hR, hZ, hB⟩
    obtain ⟨p0, p1, p2, p3⟩ := row2w hF
    go_wp2_with fail
    refine (hbh _).mono ?_
    clear hbh
    rintro e w1 ⟨rfl, hb⟩
    replace hR := blkF hb hR
    replace hB := btF hB hb
    have hz1 : w.heap.size + 2 ≤ w1.heap.size := by have := hb.size; omega
    clear hb p0 p1 p2 p3 hZ hF
    have hR1 := blkF ((Below.refl _ w1).alloc (Nat.le_refl _) (.cells #[.int .i64 0, .int .i64 0] 24)) hR
    have hB1 : Below w.heap.size w (w1.alloc (.cells #[.int .i64 0, .int .i64 0] 24)) := hB.alloc (by omega) _
    go_upto_region 2 with fail
    refine wabsW (fun V => V.heap[w.heap.size + 1]? = some (.cells #[.int .i64 0, .int .i64 0] 24 (0, 0)) ∧ Below w.heap.size w V) ⟨hR1, hB1⟩ ?_
    clear hR hB hR1 hB1
    rintro V ⟨hR, hB⟩
    obtain ⟨q0, q1, q2, q3⟩ := row2w hR
    go_wp2
    exact bodyPost_ret (results_ctW rfl _ _ (w.heap.size + 1) #[.int .i64 0, .int .i64 0] rfl (load_fw (set2W _ _ hR))) rfl ⟨rfl, belW1 (belW1 hB (by omega) _) (by omega) _⟩
end Go.Proofs.Ytpgcmjbmkjnjnaa
