import Derived.Test.YtghgcobnmmommaaCD
namespace Go.Proofs.Ytghgcobnmmommaa
open Go.RowKit
set_option linter.unusedVariables false

theorem numOk_yes (n : Int) (w : World) (h : 0 ≤ n ∧ n ≤ 31) :
    Calls Try.prog 71 #[.int .i64 n] w fun e w' => e = .returned (.bool true) ∧ w' = w := by
  obtain ⟨h0, h1⟩ := h
  go_enter Try.func71, Try.ntmps71
  go_wp2
  go_ret
  exact ⟨rfl, rfl⟩
theorem numOk_no (n : Int) (w : World) (h : ¬ (0 ≤ n ∧ n ≤ 31)) :
    Calls Try.prog 71 #[.int .i64 n] w fun e w' => e = .returned (.bool false) ∧ w' = w := by
  by_cases h0 : 0 ≤ n
  · have h1 : ¬ n ≤ 31 := fun h1 => h ⟨h0, h1⟩
    clear h
    go_enter Try.func71, Try.ntmps71
    go_wp2
    go_ret
    exact ⟨rfl, rfl⟩
  · clear h
    go_enter Try.func71, Try.ntmps71
    go_wp2
    go_ret
    exact ⟨rfl, rfl⟩

set_option maxRecDepth 100000 in
theorem implFlowOk (f : Fw) (w : World) :
    Calls Try.prog 32 #[f.val] w fun e w' => e = .returned (.bool (flOk f)) ∧ Below w.heap.size w w' := by
  obtain ⟨s, r⟩ := f
  unfold Fw.val flOk
  dsimp only
  by_cases h1 : 0 ≤ s ∧ s ≤ 31
  · have c1 := fun w => numOk_yes s w h1
    rw [decide_eq_true h1]
    by_cases h2 : 0 ≤ r ∧ r ≤ 31
    · have c2 := fun w => numOk_yes r w h2
      rw [decide_eq_true h2]
      clear h1 h2
      go_enter Try.func32, Try.ntmps32
      go_wp2_with (first | (go_at_call 71; refine (c1 _).mono ?_; clear c1; rintro e w' ⟨rfl, rfl⟩) | (go_at_call 71; refine (c2 _).mono ?_; clear c2; rintro e w' ⟨rfl, rfl⟩))
      go_ret
      exact ⟨rfl, (Below.refl _ _).alloc (Nat.le_refl _) _⟩
    · have c2 := fun w => numOk_no r w h2
      rw [decide_eq_false h2]
      clear h1 h2
      go_enter Try.func32, Try.ntmps32
      go_wp2_with (first | (go_at_call 71; refine (c1 _).mono ?_; clear c1; rintro e w' ⟨rfl, rfl⟩) | (go_at_call 71; refine (c2 _).mono ?_; clear c2; rintro e w' ⟨rfl, rfl⟩))
      go_ret
      exact ⟨rfl, (Below.refl _ _).alloc (Nat.le_refl _) _⟩
  · have c1 := fun w => numOk_no s w h1
    rw [decide_eq_false h1]
    clear h1
    go_enter Try.func32, Try.ntmps32
    go_wp2_with (go_at_call 71; refine (c1 _).mono ?_; clear c1; rintro e w' ⟨rfl, rfl⟩)
    go_ret
    exact ⟨rfl, (Below.refl _ _).alloc (Nat.le_refl _) _⟩


set_option maxRecDepth 100000 in
theorem flow_sent (s r n : Int) (w : World) (hs : 0 ≤ s ∧ s ≤ 31) (hr : 0 ≤ r ∧ r ≤ 31) (hn : 0 ≤ n ∧ n ≤ 31) :
    Calls Try.prog 123 #[.agg #[.int .i64 s, .int .i64 r], .int .i64 n] w fun e w' => e = .returned (.agg #[.int .i64 (s - n), .int .i64 r]) ∧ Below w.heap.size w w' := by
  obtain ⟨hs0, hs1⟩ := hs
  obtain ⟨hr0, hr1⟩ := hr
  obtain ⟨hn0, hn1⟩ := hn
  have hw : IntKind.i64.wrap (s - n) = s - n := by rw [IntKind.wrap_i64]; omega
  have hA : Below w.heap.size w (w.alloc (.cells #[.int .i64 s, .int .i64 r] 29)) := (Below.refl _ _).alloc (Nat.le_refl _) _
  have hB : Below w.heap.size w ((w.alloc (.cells #[.int .i64 s, .int .i64 r] 29)).alloc (.cells #[.int .i64 0, .int .i64 0] 29)) := hA.alloc (by rw [World.size_alloc]; omega) _
  have hF : ((w.alloc (.cells #[.int .i64 s, .int .i64 r] 29)).alloc (.cells #[.int .i64 0, .int .i64 0] 29)).heap[w.heap.size]? = some (.cells #[.int .i64 s, .int .i64 r] 29 (0, 0)) := blkF ((Below.refl _ _).alloc (Nat.le_refl _) _) (heap_alloc_last w _)
  have hR : ((w.alloc (.cells #[.int .i64 s, .int .i64 r] 29)).alloc (.cells #[.int .i64 0, .int .i64 0] 29)).heap[w.heap.size + 1]? = some (.cells #[.int .i64 0, .int .i64 0] 29 (0, 0)) := by
    have h := heap_alloc_last (w.alloc (.cells #[.int .i64 s, .int .i64 r] 29)) (.cells #[.int .i64 0, .int .i64 0] 29)
    rw [World.size_alloc] at h
    exact h
  clear hA
  go_enter Try.func123, Try.ntmps123
  go_upto_region 1 with fail
  refine wabsW (fun V => V.heap[w.heap.size]? = some (.cells #[.int .i64 s, .int .i64 r] 29 (0, 0)) ∧ V.heap[w.heap.size + 1]? = some (.cells #[.int .i64 0, .int .i64 0] 29 (0, 0)) ∧ Below w.heap.size w V) ⟨hF, hR, hB⟩ ?_
  clear hF hR hB
  rintro V ⟨hF, hR, hB⟩
  obtain ⟨p0, p1, p2, p3⟩ := row2w hF
  go_upto_region 2 with fail
  have hF2 := setW0 (.int .i64 (s - n)) hF
  have hR2 := setWo (o := 0) (.int .i64 (s - n)) hR (show w.heap.size + 1 ≠ w.heap.size by omega)
  have hB2 := belW1 (o := 0) hB (Nat.le_refl _) (.int .i64 (s - n))
  clear hF hR hB
  refine wabsW (fun V => V.heap[w.heap.size]? = some (.cells #[.int .i64 (s - n), .int .i64 r] 29 (0, 0)) ∧ V.heap[w.heap.size + 1]? = some (.cells #[.int .i64 0, .int .i64 0] 29 (0, 0)) ∧ Below w.heap.size w V) ⟨hF2, hR2, hB2⟩ ?_
  clear hF2 hR2 hB2 p0 p1 p2 p3
  rintro V ⟨hF, hR, hB⟩
  obtain ⟨p0, p1, p2, p3⟩ := row2w hF
  obtain ⟨q0, q1, q2, q3⟩ := row2w hR
  go_wp2
  exact bodyPost_ret (results_cW rfl _ _ (w.heap.size + 1) #[.int .i64 (s - n), .int .i64 r] rfl (load_fw (set2W _ _ hR))) rfl ⟨rfl, belW1 (belW1 hB (by omega) _) (by omega) _⟩

set_option maxRecDepth 100000 in
theorem flow_more (s r n : Int) (w : World) (hs : 0 ≤ s ∧ s ≤ 31) (hr : 0 ≤ r ∧ r ≤ 31) (hn : 0 ≤ n ∧ n ≤ 31) :
    Calls Try.prog 124 #[.agg #[.int .i64 s, .int .i64 r], .int .i64 n] w fun e w' => e = .returned (.agg #[.int .i64 (s + n), .int .i64 r]) ∧ Below w.heap.size w w' := by
  obtain ⟨hs0, hs1⟩ := hs
  obtain ⟨hr0, hr1⟩ := hr
  obtain ⟨hn0, hn1⟩ := hn
  have hw : IntKind.i64.wrap (s + n) = s + n := by rw [IntKind.wrap_i64]; omega
  have hA : Below w.heap.size w (w.alloc (.cells #[.int .i64 s, .int .i64 r] 29)) := (Below.refl _ _).alloc (Nat.le_refl _) _
  have hB : Below w.heap.size w ((w.alloc (.cells #[.int .i64 s, .int .i64 r] 29)).alloc (.cells #[.int .i64 0, .int .i64 0] 29)) := hA.alloc (by rw [World.size_alloc]; omega) _
  have hF : ((w.alloc (.cells #[.int .i64 s, .int .i64 r] 29)).alloc (.cells #[.int .i64 0, .int .i64 0] 29)).heap[w.heap.size]? = some (.cells #[.int .i64 s, .int .i64 r] 29 (0, 0)) := blkF ((Below.refl _ _).alloc (Nat.le_refl _) _) (heap_alloc_last w _)
  have hR : ((w.alloc (.cells #[.int .i64 s, .int .i64 r] 29)).alloc (.cells #[.int .i64 0, .int .i64 0] 29)).heap[w.heap.size + 1]? = some (.cells #[.int .i64 0, .int .i64 0] 29 (0, 0)) := by
    have h := heap_alloc_last (w.alloc (.cells #[.int .i64 s, .int .i64 r] 29)) (.cells #[.int .i64 0, .int .i64 0] 29)
    rw [World.size_alloc] at h
    exact h
  clear hA
  go_enter Try.func124, Try.ntmps124
  go_upto_region 1 with fail
  refine wabsW (fun V => V.heap[w.heap.size]? = some (.cells #[.int .i64 s, .int .i64 r] 29 (0, 0)) ∧ V.heap[w.heap.size + 1]? = some (.cells #[.int .i64 0, .int .i64 0] 29 (0, 0)) ∧ Below w.heap.size w V) ⟨hF, hR, hB⟩ ?_
  clear hF hR hB
  rintro V ⟨hF, hR, hB⟩
  obtain ⟨p0, p1, p2, p3⟩ := row2w hF
  go_upto_region 2 with fail
  have hF2 := setW0 (.int .i64 (s + n)) hF
  have hR2 := setWo (o := 0) (.int .i64 (s + n)) hR (show w.heap.size + 1 ≠ w.heap.size by omega)
  have hB2 := belW1 (o := 0) hB (Nat.le_refl _) (.int .i64 (s + n))
  clear hF hR hB
  refine wabsW (fun V => V.heap[w.heap.size]? = some (.cells #[.int .i64 (s + n), .int .i64 r] 29 (0, 0)) ∧ V.heap[w.heap.size + 1]? = some (.cells #[.int .i64 0, .int .i64 0] 29 (0, 0)) ∧ Below w.heap.size w V) ⟨hF2, hR2, hB2⟩ ?_
  clear hF2 hR2 hB2 p0 p1 p2 p3
  rintro V ⟨hF, hR, hB⟩
  obtain ⟨p0, p1, p2, p3⟩ := row2w hF
  obtain ⟨q0, q1, q2, q3⟩ := row2w hR
  go_wp2
  exact bodyPost_ret (results_cW rfl _ _ (w.heap.size + 1) #[.int .i64 (s + n), .int .i64 r] rfl (load_fw (set2W _ _ hR))) rfl ⟨rfl, belW1 (belW1 hB (by omega) _) (by omega) _⟩

set_option maxRecDepth 100000 in
theorem flow_got (s r n : Int) (w : World) (hs : 0 ≤ s ∧ s ≤ 31) (hr : 0 ≤ r ∧ r ≤ 31) (hn : 0 ≤ n ∧ n ≤ 31) :
    Calls Try.prog 125 #[.agg #[.int .i64 s, .int .i64 r], .int .i64 n] w fun e w' => e = .returned (.agg #[.int .i64 s, .int .i64 (r - n)]) ∧ Below w.heap.size w w' := by
  obtain ⟨hs0, hs1⟩ := hs
  obtain ⟨hr0, hr1⟩ := hr
  obtain ⟨hn0, hn1⟩ := hn
  have hw : IntKind.i64.wrap (r - n) = r - n := by rw [IntKind.wrap_i64]; omega
  have hA : Below w.heap.size w (w.alloc (.cells #[.int .i64 s, .int .i64 r] 29)) := (Below.refl _ _).alloc (Nat.le_refl _) _
  have hB : Below w.heap.size w ((w.alloc (.cells #[.int .i64 s, .int .i64 r] 29)).alloc (.cells #[.int .i64 0, .int .i64 0] 29)) := hA.alloc (by rw [World.size_alloc]; omega) _
  have hF : ((w.alloc (.cells #[.int .i64 s, .int .i64 r] 29)).alloc (.cells #[.int .i64 0, .int .i64 0] 29)).heap[w.heap.size]? = some (.cells #[.int .i64 s, .int .i64 r] 29 (0, 0)) := blkF ((Below.refl _ _).alloc (Nat.le_refl _) _) (heap_alloc_last w _)
  have hR : ((w.alloc (.cells #[.int .i64 s, .int .i64 r] 29)).alloc (.cells #[.int .i64 0, .int .i64 0] 29)).heap[w.heap.size + 1]? = some (.cells #[.int .i64 0, .int .i64 0] 29 (0, 0)) := by
    have h := heap_alloc_last (w.alloc (.cells #[.int .i64 s, .int .i64 r] 29)) (.cells #[.int .i64 0, .int .i64 0] 29)
    rw [World.size_alloc] at h
    exact h
  clear hA
  go_enter Try.func125, Try.ntmps125
  go_upto_region 1 with fail
  refine wabsW (fun V => V.heap[w.heap.size]? = some (.cells #[.int .i64 s, .int .i64 r] 29 (0, 0)) ∧ V.heap[w.heap.size + 1]? = some (.cells #[.int .i64 0, .int .i64 0] 29 (0, 0)) ∧ Below w.heap.size w V) ⟨hF, hR, hB⟩ ?_
  clear hF hR hB
  rintro V ⟨hF, hR, hB⟩
  obtain ⟨p0, p1, p2, p3⟩ := row2w hF
  go_upto_region 2 with fail
  have hF2 := setW1 (.int .i64 (r - n)) hF
  have hR2 := setWo (o := 1) (.int .i64 (r - n)) hR (show w.heap.size + 1 ≠ w.heap.size by omega)
  have hB2 := belW1 (o := 1) hB (Nat.le_refl _) (.int .i64 (r - n))
  clear hF hR hB
  refine wabsW (fun V => V.heap[w.heap.size]? = some (.cells #[.int .i64 s, .int .i64 (r - n)] 29 (0, 0)) ∧ V.heap[w.heap.size + 1]? = some (.cells #[.int .i64 0, .int .i64 0] 29 (0, 0)) ∧ Below w.heap.size w V) ⟨hF2, hR2, hB2⟩ ?_
  clear hF2 hR2 hB2 p0 p1 p2 p3
  rintro V ⟨hF, hR, hB⟩
  obtain ⟨p0, p1, p2, p3⟩ := row2w hF
  obtain ⟨q0, q1, q2, q3⟩ := row2w hR
  go_wp2
  exact bodyPost_ret (results_cW rfl _ _ (w.heap.size + 1) #[.int .i64 s, .int .i64 (r - n)] rfl (load_fw (set2W _ _ hR))) rfl ⟨rfl, belW1 (belW1 hB (by omega) _) (by omega) _⟩

set_option maxRecDepth 100000 in
theorem flow_given_lt (s r n : Int) (w : World) (hs : 0 ≤ s ∧ s ≤ 31) (hr : 0 ≤ r ∧ r ≤ 31) (hn : 0 ≤ n ∧ n ≤ 31) (hl : r < n) :
    Calls Try.prog 126 #[.agg #[.int .i64 s, .int .i64 r], .int .i64 n] w fun e w' => e = .returned (.agg #[.int .i64 s, .int .i64 (n)]) ∧ Below w.heap.size w w' := by
  obtain ⟨hs0, hs1⟩ := hs
  obtain ⟨hr0, hr1⟩ := hr
  obtain ⟨hn0, hn1⟩ := hn
  skip
  have hA : Below w.heap.size w (w.alloc (.cells #[.int .i64 s, .int .i64 r] 29)) := (Below.refl _ _).alloc (Nat.le_refl _) _
  have hB : Below w.heap.size w ((w.alloc (.cells #[.int .i64 s, .int .i64 r] 29)).alloc (.cells #[.int .i64 0, .int .i64 0] 29)) := hA.alloc (by rw [World.size_alloc]; omega) _
  have hF : ((w.alloc (.cells #[.int .i64 s, .int .i64 r] 29)).alloc (.cells #[.int .i64 0, .int .i64 0] 29)).heap[w.heap.size]? = some (.cells #[.int .i64 s, .int .i64 r] 29 (0, 0)) := blkF ((Below.refl _ _).alloc (Nat.le_refl _) _) (heap_alloc_last w _)
  have hR : ((w.alloc (.cells #[.int .i64 s, .int .i64 r] 29)).alloc (.cells #[.int .i64 0, .int .i64 0] 29)).heap[w.heap.size + 1]? = some (.cells #[.int .i64 0, .int .i64 0] 29 (0, 0)) := by
    have h := heap_alloc_last (w.alloc (.cells #[.int .i64 s, .int .i64 r] 29)) (.cells #[.int .i64 0, .int .i64 0] 29)
    rw [World.size_alloc] at h
    exact h
  clear hA
  go_enter Try.func126, Try.ntmps126
  go_upto_region 1 with fail
  refine wabsW (fun V => V.heap[w.heap.size]? = some (.cells #[.int .i64 s, .int .i64 r] 29 (0, 0)) ∧ V.heap[w.heap.size + 1]? = some (.cells #[.int .i64 0, .int .i64 0] 29 (0, 0)) ∧ Below w.heap.size w V) ⟨hF, hR, hB⟩ ?_
  clear hF hR hB
  rintro V ⟨hF, hR, hB⟩
  obtain ⟨p0, p1, p2, p3⟩ := row2w hF
  go_upto_region 2 with fail
  have hF2 := setW1 (.int .i64 (n)) hF
  have hR2 := setWo (o := 1) (.int .i64 (n)) hR (show w.heap.size + 1 ≠ w.heap.size by omega)
  have hB2 := belW1 (o := 1) hB (Nat.le_refl _) (.int .i64 (n))
  clear hF hR hB
  refine wabsW (fun V => V.heap[w.heap.size]? = some (.cells #[.int .i64 s, .int .i64 (n)] 29 (0, 0)) ∧ V.heap[w.heap.size + 1]? = some (.cells #[.int .i64 0, .int .i64 0] 29 (0, 0)) ∧ Below w.heap.size w V) ⟨hF2, hR2, hB2⟩ ?_
  clear hF2 hR2 hB2 p0 p1 p2 p3
  rintro V ⟨hF, hR, hB⟩
  obtain ⟨p0, p1, p2, p3⟩ := row2w hF
  obtain ⟨q0, q1, q2, q3⟩ := row2w hR
  go_wp2
  exact bodyPost_ret (results_cW rfl _ _ (w.heap.size + 1) #[.int .i64 s, .int .i64 (n)] rfl (load_fw (set2W _ _ hR))) rfl ⟨rfl, belW1 (belW1 hB (by omega) _) (by omega) _⟩

set_option maxRecDepth 100000 in
theorem flow_given_ge (s r n : Int) (w : World) (hs : 0 ≤ s ∧ s ≤ 31) (hr : 0 ≤ r ∧ r ≤ 31) (hn : 0 ≤ n ∧ n ≤ 31) (hl : ¬ r < n) :
    Calls Try.prog 126 #[.agg #[.int .i64 s, .int .i64 r], .int .i64 n] w fun e w' => e = .returned (.agg #[.int .i64 s, .int .i64 (r)]) ∧ Below w.heap.size w w' := by
  obtain ⟨hs0, hs1⟩ := hs
  obtain ⟨hr0, hr1⟩ := hr
  obtain ⟨hn0, hn1⟩ := hn
  skip
  have hA : Below w.heap.size w (w.alloc (.cells #[.int .i64 s, .int .i64 r] 29)) := (Below.refl _ _).alloc (Nat.le_refl _) _
  have hB : Below w.heap.size w ((w.alloc (.cells #[.int .i64 s, .int .i64 r] 29)).alloc (.cells #[.int .i64 0, .int .i64 0] 29)) := hA.alloc (by rw [World.size_alloc]; omega) _
  have hF : ((w.alloc (.cells #[.int .i64 s, .int .i64 r] 29)).alloc (.cells #[.int .i64 0, .int .i64 0] 29)).heap[w.heap.size]? = some (.cells #[.int .i64 s, .int .i64 r] 29 (0, 0)) := blkF ((Below.refl _ _).alloc (Nat.le_refl _) _) (heap_alloc_last w _)
  have hR : ((w.alloc (.cells #[.int .i64 s, .int .i64 r] 29)).alloc (.cells #[.int .i64 0, .int .i64 0] 29)).heap[w.heap.size + 1]? = some (.cells #[.int .i64 0, .int .i64 0] 29 (0, 0)) := by
    have h := heap_alloc_last (w.alloc (.cells #[.int .i64 s, .int .i64 r] 29)) (.cells #[.int .i64 0, .int .i64 0] 29)
    rw [World.size_alloc] at h
    exact h
  clear hA
  go_enter Try.func126, Try.ntmps126
  go_upto_region 1 with fail
  refine wabsW (fun V => V.heap[w.heap.size]? = some (.cells #[.int .i64 s, .int .i64 r] 29 (0, 0)) ∧ V.heap[w.heap.size + 1]? = some (.cells #[.int .i64 0, .int .i64 0] 29 (0, 0)) ∧ Below w.heap.size w V) ⟨hF, hR, hB⟩ ?_
  clear hF hR hB
  rintro V ⟨hF, hR, hB⟩
  obtain ⟨p0, p1, p2, p3⟩ := row2w hF
  go_upto_region 2 with fail
  have hF2 := setW1 (.int .i64 (r)) hF
  have hR2 := setWo (o := 1) (.int .i64 (r)) hR (show w.heap.size + 1 ≠ w.heap.size by omega)
  have hB2 := belW1 (o := 1) hB (Nat.le_refl _) (.int .i64 (r))
  clear hF hR hB
  refine wabsW (fun V => V.heap[w.heap.size]? = some (.cells #[.int .i64 s, .int .i64 (r)] 29 (0, 0)) ∧ V.heap[w.heap.size + 1]? = some (.cells #[.int .i64 0, .int .i64 0] 29 (0, 0)) ∧ Below w.heap.size w V) ⟨hF2, hR2, hB2⟩ ?_
  clear hF2 hR2 hB2 p0 p1 p2 p3
  rintro V ⟨hF, hR, hB⟩
  obtain ⟨p0, p1, p2, p3⟩ := row2w hF
  obtain ⟨q0, q1, q2, q3⟩ := row2w hR
  go_wp2
  exact bodyPost_ret (results_cW rfl _ _ (w.heap.size + 1) #[.int .i64 s, .int .i64 (r)] rfl (load_fw (set2W _ _ hR))) rfl ⟨rfl, belW1 (belW1 hB (by omega) _) (by omega) _⟩

end Go.Proofs.Ytghgcobnmmommaa
