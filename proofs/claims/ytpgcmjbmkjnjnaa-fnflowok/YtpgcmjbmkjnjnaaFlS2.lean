import Derived.Test.YtpgcmjbmkjnjnaaFlS
namespace Go.Proofs.Ytpgcmjbmkjnjnaa
open Go.RowKit
set_option linter.unusedVariables false

set_option maxRecDepth 100000 in
set_option maxHeartbeats 1000000 in
theorem specFlowGive (f : Fw) (n : Int) (w : World) :
    Calls Try.prog 27 #[f.val, .int .i64 n] w fun e w' => e = .returned (.tuple #[(flGive f n).1.val, .int .i64 (flGive f n).2]) ∧ Below w.heap.size w w' := by
  obtain ⟨s, r⟩ := f
  have hok := fun w => specFlowOk ⟨s, r⟩ w
  unfold Fw.val at hok ⊢
  have hA : Below w.heap.size w (w.alloc (.cells #[.int .i64 s, .int .i64 r] 24)) := (Below.refl _ _).alloc (Nat.le_refl _) _
  have hB : Below w.heap.size w ((w.alloc (.cells #[.int .i64 s, .int .i64 r] 24)).alloc (.cells #[.int .i64 0, .int .i64 0] 24)) := hA.alloc (by rw [World.size_alloc]; omega) _
  have hF : ((w.alloc (.cells #[.int .i64 s, .int .i64 r] 24)).alloc (.cells #[.int .i64 0, .int .i64 0] 24)).heap[w.heap.size]? = some (.cells #[.int .i64 s, .int .i64 r] 24 (0, 0)) := blkF ((Below.refl _ _).alloc (Nat.le_refl _) _) (heap_alloc_last w _)
  have hR : ((w.alloc (.cells #[.int .i64 s, .int .i64 r] 24)).alloc (.cells #[.int .i64 0, .int .i64 0] 24)).heap[w.heap.size + 1]? = some (.cells #[.int .i64 0, .int .i64 0] 24 (0, 0)) := by
    have h := heap_alloc_last (w.alloc (.cells #[.int .i64 s, .int .i64 r] 24)) (.cells #[.int .i64 0, .int .i64 0] 24)
    rw [World.size_alloc] at h
    exact h
  cases ho : flOk ⟨s, r⟩ with
  | false =>
    rw [ho] at hok
    rw [flGive_no (by rw [ho]; simp)]
    clear ho hA
    unfold zFw
    dsimp only
    go_enter Try.func27, Try.ntmps27
    go_wp2_with fail
    refine (hok _).mono ?_
    rintro e w1 ⟨rfl, hb⟩
    replace hF := blkF hb hF
    replace hR := blkF hb hR
    replace hB := btF hB hb
    obtain ⟨p0, p1, p2, p3⟩ := row2w hF
    obtain ⟨q0, q1, q2, q3⟩ := row2w hR
    go_wp2
    exact bodyPost_ret (results_ctW rfl _ _ (w.heap.size + 1) #[.int .i64 0, .int .i64 0] rfl (load_fw (set2W _ _ hR))) rfl ⟨rfl, belW1 (belW1 hB (by omega) _) (by omega) _⟩
  | true =>
    rw [ho] at hok
    have hbd := flOk_iff.1 ho
    dsimp only at hbd
    obtain ⟨⟨hs0, hs1⟩, hr0, hr1⟩ := hbd
    by_cases hn : 0 ≤ n ∧ n ≤ 31
    · have hin := fun w => l6In_yes n 0 31 w hn
      obtain ⟨hn0, hn1⟩ := hn
      by_cases hl : r < n
      · skip
        rw [flGive_less ho hn0 hn1 hl]
        have hw1 : IntKind.i64.wrap (n - r) = n - r := by rw [IntKind.wrap_i64]; omega
        have hw2 : IntKind.i64.wrap (r + (n - r)) = n := by rw [IntKind.wrap_i64]; omega
        have hw3 : IntKind.i64.wrap (r + 0) = r := by rw [IntKind.wrap_i64]; omega
        have hlt : ¬ n - r < 0 ∨ n - r < 0 := by omega
        clear ho hA hlt
        dsimp only
        go_enter Try.func27, Try.ntmps27
        go_wp2_with fail
        refine (hok _).mono ?_
        rintro e w1 ⟨rfl, hb⟩
        replace hF := blkF hb hF
        replace hR := blkF hb hR
        replace hB := btF hB hb
        clear hok hb
        obtain ⟨p0, p1, p2, p3⟩ := row2w hF
        have hq : (if n - r < 0 then (0 : Int) else n - r) = n - r := by split <;> omega
        go_upto_region 4 with (go_at_call 34; refine (hin _).mono ?_; rintro e w2 ⟨rfl, rfl⟩)
        have hF2 := setW1 (.int .i64 (n)) hF
        have hR2 := setWo (o := 1) (.int .i64 (n)) hR (show w.heap.size + 1 ≠ w.heap.size by omega)
        have hB2 := belW1 (o := 1) hB (Nat.le_refl _) (.int .i64 (n))
        clear hF hR hB hin
        go_upto_region 5 with fail
        refine wabsW (fun V => V.heap[w.heap.size]? = some (.cells #[.int .i64 s, .int .i64 (n)] 24 (0, 0)) ∧ V.heap[w.heap.size + 1]? = some (.cells #[.int .i64 0, .int .i64 0] 24 (0, 0)) ∧ Below w.heap.size w V) ⟨hF2, hR2, hB2⟩ ?_
        clear hF2 hR2 hB2 p0 p1 p2 p3
        rintro V ⟨hF, hR, hB⟩
        obtain ⟨p0, p1, p2, p3⟩ := row2w hF
        obtain ⟨q0, q1, q2, q3⟩ := row2w hR
        go_wp2
        exact bodyPost_ret (results_ctW rfl _ _ (w.heap.size + 1) #[.int .i64 s, .int .i64 (n)] rfl (load_fw (set2W _ _ hR))) rfl ⟨rfl, belW1 (belW1 hB (by omega) _) (by omega) _⟩
      · skip
        rw [flGive_same ho hn0 hn1 hl]
        have hw1 : IntKind.i64.wrap (n - r) = n - r := by rw [IntKind.wrap_i64]; omega
        have hw2 : IntKind.i64.wrap (r + (n - r)) = n := by rw [IntKind.wrap_i64]; omega
        have hw3 : IntKind.i64.wrap (r + 0) = r := by rw [IntKind.wrap_i64]; omega
        have hlt : ¬ n - r < 0 ∨ n - r < 0 := by omega
        clear ho hA hlt
        dsimp only
        go_enter Try.func27, Try.ntmps27
        go_wp2_with fail
        refine (hok _).mono ?_
        rintro e w1 ⟨rfl, hb⟩
        replace hF := blkF hb hF
        replace hR := blkF hb hR
        replace hB := btF hB hb
        clear hok hb
        obtain ⟨p0, p1, p2, p3⟩ := row2w hF
        have hq : (if n - r < 0 then (0 : Int) else n - r) = 0 := by split <;> omega
        go_upto_region 4 with (go_at_call 34; refine (hin _).mono ?_; rintro e w2 ⟨rfl, rfl⟩)
        have hF2 := setW1 (.int .i64 (r)) hF
        have hR2 := setWo (o := 1) (.int .i64 (r)) hR (show w.heap.size + 1 ≠ w.heap.size by omega)
        have hB2 := belW1 (o := 1) hB (Nat.le_refl _) (.int .i64 (r))
        clear hF hR hB hin
        go_upto_region 5 with fail
        refine wabsW (fun V => V.heap[w.heap.size]? = some (.cells #[.int .i64 s, .int .i64 (r)] 24 (0, 0)) ∧ V.heap[w.heap.size + 1]? = some (.cells #[.int .i64 0, .int .i64 0] 24 (0, 0)) ∧ Below w.heap.size w V) ⟨hF2, hR2, hB2⟩ ?_
        clear hF2 hR2 hB2 p0 p1 p2 p3
        rintro V ⟨hF, hR, hB⟩
        obtain ⟨p0, p1, p2, p3⟩ := row2w hF
        obtain ⟨q0, q1, q2, q3⟩ := row2w hR
        go_wp2
        exact bodyPost_ret (results_ctW rfl _ _ (w.heap.size + 1) #[.int .i64 s, .int .i64 (r)] rfl (load_fw (set2W _ _ hR))) rfl ⟨rfl, belW1 (belW1 hB (by omega) _) (by omega) _⟩
    · have hin := fun w => l6In_no n 0 31 w hn
      rw [flGive_no (fun h => hn h.2)]
      clear ho hA hn
      unfold zFw
      dsimp only
      go_enter Try.func27, Try.ntmps27
      go_wp2_with fail
      refine (hok _).mono ?_
      rintro e w1 ⟨rfl, hb⟩
      replace hF := blkF hb hF
      replace hR := blkF hb hR
      replace hB := btF hB hb
      obtain ⟨p0, p1, p2, p3⟩ := row2w hF
      obtain ⟨q0, q1, q2, q3⟩ := row2w hR
      go_wp2_with (go_at_call 34; refine (hin _).mono ?_; rintro e w2 ⟨rfl, rfl⟩)
      exact bodyPost_ret (results_ctW rfl _ _ (w.heap.size + 1) #[.int .i64 0, .int .i64 0] rfl (load_fw (set2W _ _ hR))) rfl ⟨rfl, belW1 (belW1 hB (by omega) _) (by omega) _⟩
end Go.Proofs.Ytpgcmjbmkjnjnaa
