import Derived.Test.YtpgcmjbmkjnjnaaFlD
namespace Go.Proofs.Ytpgcmjbmkjnjnaa
open Go.RowKit
set_option linter.unusedVariables false

set_option maxRecDepth 100000 in
set_option maxHeartbeats 1000000 in
theorem drawFlowSend (a : Option Addr) (len cap : Nat) (zs : List Int) (w : World) (hr : Row w a len cap zs) :
    Calls Try.prog 14 #[.slice a len cap] w fun e w' => ∃ (f : Fw) (n : Int), e = .returned (.tuple #[f.val, .int .i64 n]) ∧ FwD f ∧ -1 ≤ n ∧ n ≤ 18 ∧ Below w.heap.size w w' := by
  have hb0 : Below w.heap.size w (w.alloc (.cells #[.int .i64 0, .int .i64 0] 24)) := (Below.refl _ _).alloc (Nat.le_refl _) _
  have hR0 : Hid ((w.alloc (.cells #[.int .i64 0, .int .i64 0] 24)).heap[w.heap.size]? = some (.cells #[.int .i64 0, .int .i64 0] 24 (0, 0))) := heap_alloc_last w _
  have HR : Hid (Row w a len cap zs) := hr
  clear hr
  go_enter Try.func14, Try.ntmps14
  go_wp2_with fail
  refine (open_st2W _ _ _ _ _ (HR.out.below hb0)).mono ?_
  rw [World.size_alloc]
  rintro e w1 ⟨rfl, s1, hb1, hz1⟩
  have hR1 := (hb1.block w.heap.size (by simp)).trans hR0.out
  have hB1 : Below w.heap.size w w1 := hb0.trans (hb1.mono (by simp))
  clear hR0 hb0 hb1 HR
  go_wp2_with fail
  refine (l71Flow_any (w.heap.size + 1) 0 _ _ s1 (by decide)).mono ?_
  rintro e w2 ⟨f, rfl, hd, _, s2⟩
  unfold Fw.val
  have hR2 := s2.blk hR1 (by omega)
  have hB2 := s2.belW hB1 (by omega) hB1.size
  clear s1 hR1 hB1
  go_wp2_with fail
  refine (pick_st2 (w.heap.size + 1) 10 20 _ _ s2.self (by decide) (by decide)).mono ?_
  rintro e w3 ⟨v, rfl, v0, v1, j, _⟩
  have hR3 := j.blk hR2 (by omega)
  have hB3 := j.belW hB2 (by omega) hB2.size
  clear s2 hR2 hB2 j
  obtain ⟨r0, r1, r2, r3⟩ := row2w hR3
  go_wp2
  exact bodyPost_ret (results_ctW rfl _ _ w.heap.size #[.int .i64 f.s, .int .i64 f.r] rfl (load_fw (set2W _ _ hR3))) rfl ⟨f, v - 1, rfl, hd, by omega, by omega, belW1 (belW1 hB3 (Nat.le_refl _) _) (Nat.le_refl _) _⟩

set_option maxRecDepth 100000 in
set_option maxHeartbeats 1000000 in
theorem drawFlowMore (a : Option Addr) (len cap : Nat) (zs : List Int) (w : World) (hr : Row w a len cap zs) :
    Calls Try.prog 19 #[.slice a len cap] w fun e w' => ∃ (f : Fw) (n : Int), e = .returned (.tuple #[f.val, .int .i64 n]) ∧ FwD f ∧ -1 ≤ n ∧ n ≤ 18 ∧ Below w.heap.size w w' := by
  have hb0 : Below w.heap.size w (w.alloc (.cells #[.int .i64 0, .int .i64 0] 24)) := (Below.refl _ _).alloc (Nat.le_refl _) _
  have hR0 : Hid ((w.alloc (.cells #[.int .i64 0, .int .i64 0] 24)).heap[w.heap.size]? = some (.cells #[.int .i64 0, .int .i64 0] 24 (0, 0))) := heap_alloc_last w _
  have HR : Hid (Row w a len cap zs) := hr
  clear hr
  go_enter Try.func19, Try.ntmps19
  go_wp2_with fail
  refine (open_st2W _ _ _ _ _ (HR.out.below hb0)).mono ?_
  rw [World.size_alloc]
  rintro e w1 ⟨rfl, s1, hb1, hz1⟩
  have hR1 := (hb1.block w.heap.size (by simp)).trans hR0.out
  have hB1 : Below w.heap.size w w1 := hb0.trans (hb1.mono (by simp))
  clear hR0 hb0 hb1 HR
  go_wp2_with fail
  refine (l71Flow_any (w.heap.size + 1) 0 _ _ s1 (by decide)).mono ?_
  rintro e w2 ⟨f, rfl, hd, _, s2⟩
  unfold Fw.val
  have hR2 := s2.blk hR1 (by omega)
  have hB2 := s2.belW hB1 (by omega) hB1.size
  clear s1 hR1 hB1
  go_wp2_with fail
  refine (pick_st2 (w.heap.size + 1) 10 20 _ _ s2.self (by decide) (by decide)).mono ?_
  rintro e w3 ⟨v, rfl, v0, v1, j, _⟩
  have hR3 := j.blk hR2 (by omega)
  have hB3 := j.belW hB2 (by omega) hB2.size
  clear s2 hR2 hB2 j
  obtain ⟨r0, r1, r2, r3⟩ := row2w hR3
  go_wp2
  exact bodyPost_ret (results_ctW rfl _ _ w.heap.size #[.int .i64 f.s, .int .i64 f.r] rfl (load_fw (set2W _ _ hR3))) rfl ⟨f, v - 1, rfl, hd, by omega, by omega, belW1 (belW1 hB3 (Nat.le_refl _) _) (Nat.le_refl _) _⟩

set_option maxRecDepth 100000 in
set_option maxHeartbeats 1000000 in
theorem drawFlowGot (a : Option Addr) (len cap : Nat) (zs : List Int) (w : World) (hr : Row w a len cap zs) :
    Calls Try.prog 22 #[.slice a len cap] w fun e w' => ∃ (f : Fw) (n : Int), e = .returned (.tuple #[f.val, .int .i64 n]) ∧ FwD f ∧ -1 ≤ n ∧ n ≤ 18 ∧ Below w.heap.size w w' := by
  have hb0 : Below w.heap.size w (w.alloc (.cells #[.int .i64 0, .int .i64 0] 24)) := (Below.refl _ _).alloc (Nat.le_refl _) _
  have hR0 : Hid ((w.alloc (.cells #[.int .i64 0, .int .i64 0] 24)).heap[w.heap.size]? = some (.cells #[.int .i64 0, .int .i64 0] 24 (0, 0))) := heap_alloc_last w _
  have HR : Hid (Row w a len cap zs) := hr
  clear hr
  go_enter Try.func22, Try.ntmps22
  go_wp2_with fail
  refine (open_st2W _ _ _ _ _ (HR.out.below hb0)).mono ?_
  rw [World.size_alloc]
  rintro e w1 ⟨rfl, s1, hb1, hz1⟩
  have hR1 := (hb1.block w.heap.size (by simp)).trans hR0.out
  have hB1 : Below w.heap.size w w1 := hb0.trans (hb1.mono (by simp))
  clear hR0 hb0 hb1 HR
  go_wp2_with fail
  refine (l71Flow_any (w.heap.size + 1) 0 _ _ s1 (by decide)).mono ?_
  rintro e w2 ⟨f, rfl, hd, _, s2⟩
  unfold Fw.val
  have hR2 := s2.blk hR1 (by omega)
  have hB2 := s2.belW hB1 (by omega) hB1.size
  clear s1 hR1 hB1
  go_wp2_with fail
  refine (pick_st2 (w.heap.size + 1) 10 20 _ _ s2.self (by decide) (by decide)).mono ?_
  rintro e w3 ⟨v, rfl, v0, v1, j, _⟩
  have hR3 := j.blk hR2 (by omega)
  have hB3 := j.belW hB2 (by omega) hB2.size
  clear s2 hR2 hB2 j
  obtain ⟨r0, r1, r2, r3⟩ := row2w hR3
  go_wp2
  exact bodyPost_ret (results_ctW rfl _ _ w.heap.size #[.int .i64 f.s, .int .i64 f.r] rfl (load_fw (set2W _ _ hR3))) rfl ⟨f, v - 1, rfl, hd, by omega, by omega, belW1 (belW1 hB3 (Nat.le_refl _) _) (Nat.le_refl _) _⟩

set_option maxRecDepth 100000 in
set_option maxHeartbeats 1000000 in
theorem drawFlowGive (a : Option Addr) (len cap : Nat) (zs : List Int) (w : World) (hr : Row w a len cap zs) :
    Calls Try.prog 26 #[.slice a len cap] w fun e w' => ∃ (f : Fw) (n : Int), e = .returned (.tuple #[f.val, .int .i64 n]) ∧ FwD f ∧ -1 ≤ n ∧ n ≤ 32 ∧ Below w.heap.size w w' := by
  have hb0 : Below w.heap.size w (w.alloc (.cells #[.int .i64 0, .int .i64 0] 24)) := (Below.refl _ _).alloc (Nat.le_refl _) _
  have hR0 : Hid ((w.alloc (.cells #[.int .i64 0, .int .i64 0] 24)).heap[w.heap.size]? = some (.cells #[.int .i64 0, .int .i64 0] 24 (0, 0))) := heap_alloc_last w _
  have HR : Hid (Row w a len cap zs) := hr
  clear hr
  go_enter Try.func26, Try.ntmps26
  go_wp2_with fail
  refine (open_st2W _ _ _ _ _ (HR.out.below hb0)).mono ?_
  rw [World.size_alloc]
  rintro e w1 ⟨rfl, s1, hb1, hz1⟩
  have hR1 := (hb1.block w.heap.size (by simp)).trans hR0.out
  have hB1 : Below w.heap.size w w1 := hb0.trans (hb1.mono (by simp))
  clear hR0 hb0 hb1 HR
  go_wp2_with fail
  refine (l71Flow_any (w.heap.size + 1) 0 _ _ s1 (by decide)).mono ?_
  rintro e w2 ⟨f, rfl, hd, _, s2⟩
  unfold Fw.val
  have hR2 := s2.blk hR1 (by omega)
  have hB2 := s2.belW hB1 (by omega) hB1.size
  clear s1 hR1 hB1
  go_wp2_with fail
  refine (pick_st2 (w.heap.size + 1) 10 34 _ _ s2.self (by decide) (by decide)).mono ?_
  rintro e w3 ⟨v, rfl, v0, v1, j, _⟩
  have hR3 := j.blk hR2 (by omega)
  have hB3 := j.belW hB2 (by omega) hB2.size
  clear s2 hR2 hB2 j
  obtain ⟨r0, r1, r2, r3⟩ := row2w hR3
  go_wp2
  exact bodyPost_ret (results_ctW rfl _ _ w.heap.size #[.int .i64 f.s, .int .i64 f.r] rfl (load_fw (set2W _ _ hR3))) rfl ⟨f, v - 1, rfl, hd, by omega, by omega, belW1 (belW1 hB3 (Nat.le_refl _) _) (Nat.le_refl _) _⟩

set_option maxRecDepth 100000 in
set_option maxHeartbeats 1000000 in
theorem drawFlowOk (a : Option Addr) (len cap : Nat) (zs : List Int) (w : World) (hr : Row w a len cap zs) :
    Calls Try.prog 28 #[.slice a len cap] w fun e w' => ∃ f : Fw, e = .returned f.val ∧ FwD f ∧ Below w.heap.size w w' := by
  have hb0 : Below w.heap.size w (w.alloc (.cells #[.int .i64 0, .int .i64 0] 24)) := (Below.refl _ _).alloc (Nat.le_refl _) _
  have hR0 : Hid ((w.alloc (.cells #[.int .i64 0, .int .i64 0] 24)).heap[w.heap.size]? = some (.cells #[.int .i64 0, .int .i64 0] 24 (0, 0))) := heap_alloc_last w _
  have HR : Hid (Row w a len cap zs) := hr
  clear hr
  go_enter Try.func28, Try.ntmps28
  go_wp2_with fail
  refine (open_st2W _ _ _ _ _ (HR.out.below hb0)).mono ?_
  rw [World.size_alloc]
  rintro e w1 ⟨rfl, s1, hb1, hz1⟩
  have hR1 := (hb1.block w.heap.size (by simp)).trans hR0.out
  have hB1 : Below w.heap.size w w1 := hb0.trans (hb1.mono (by simp))
  clear hR0 hb0 hb1 HR
  go_wp2_with fail
  refine (l71Flow_any (w.heap.size + 1) 0 _ _ s1 (by decide)).mono ?_
  rintro e w2 ⟨f, rfl, hd, _, s2⟩
  unfold Fw.val
  have hR2 := s2.blk hR1 (by omega)
  have hB2 := s2.belW hB1 (by omega) hB1.size
  have hz2 := s2.kept.size
  clear hR1 hB1
  obtain ⟨s, r⟩ := f
  have hd' := hd
  obtain ⟨d0, d1, d2, d3⟩ := hd'
  dsimp only at d0 d1 d2 d3 ⊢
  have hF : (w2.alloc (.cells #[.int .i64 s, .int .i64 r] 24)).heap[w2.heap.size]? = some (.cells #[.int .i64 s, .int .i64 r] 24 (0, 0)) := heap_alloc_last w2 _
  have s3 := s2.alloc (.cells #[.int .i64 s, .int .i64 r] 24)
  have hR3 := blkW hR2 (.cells #[.int .i64 s, .int .i64 r] 24)
  have hB3 : Below w.heap.size w (w2.alloc (.cells #[.int .i64 s, .int .i64 r] 24)) := hB2.alloc hB2.size _
  clear s2 hR2 hB2
  go_upto_region 3 with fail
  obtain ⟨F, hFF⟩ : ∃ F, w2.heap.size = F := ⟨_, rfl⟩
  rw [hFF] at hF hz2 ⊢
  refine wabsW (fun V => V.heap[F]? = some (.cells #[.int .i64 s, .int .i64 r] 24 (0, 0)) ∧ V.heap[w.heap.size]? = some (.cells #[.int .i64 0, .int .i64 0] 24 (0, 0)) ∧ St2 w1 V (w.heap.size + 1) 10 ∧ Below w.heap.size w V) ⟨hF, hR3, s3, hB3⟩ ?_
  clear hF hR3 s3 hB3 hFF s1
  rintro V ⟨hF, hR, hst, hB⟩
  go_wp2_with fail
  refine (pick_st2 (w.heap.size + 1) 10 4 _ _ hst.self (by decide) (by decide)).mono ?_
  rintro e u1 ⟨x, rfl, x0, x1, j1, _⟩
  have hF1 := j1.blk hF (by omega)
  have hR1 := j1.blk hR (by omega)
  have hB1 := j1.belW hB (by omega) hB.size
  clear hst hF hR hB
  by_cases e0 : (x == 0) = true
  · go_wp2_with fail
    refine (pick_st2 (w.heap.size + 1) 11 40 _ _ j1.self (by decide) (by decide)).mono ?_
    rintro e u2 ⟨y, rfl, y0, y1, j2, _⟩
    have hF2 := j2.blk hF1 (by omega)
    have hR2 := j2.blk hR1 (by omega)
    have hB2 := j2.belW hB1 (by omega) hB1.size
    clear j1 j2 hF1 hR1 hB1
    obtain ⟨q0, q1, q2, q3⟩ := row2w hF2
    have hB3 := belW1 (o := 1) hB2 (show w.heap.size ≤ F by omega) (.int .i64 (y - 4))
    have hR3 := setWo (o := 1) (.int .i64 (y - 4)) hR2 (show w.heap.size ≠ F by omega)
    have hF3 := setW1 (.int .i64 (y - 4)) hF2
    clear hF2 hR2 hB2
    go_upto_region 5 with fail
    refine wabsW (fun V => V.heap[F]? = some (.cells #[.int .i64 s, .int .i64 (y - 4)] 24 (0, 0)) ∧ V.heap[w.heap.size]? = some (.cells #[.int .i64 0, .int .i64 0] 24 (0, 0)) ∧ Below w.heap.size w V) ⟨hF3, hR3, hB3⟩ ?_
    clear hF3 hR3 hB3 q0 q1 q2 q3
    rintro V ⟨hF, hR, hB⟩
    obtain ⟨q0, q1, q2, q3⟩ := row2w hF
    obtain ⟨p0, p1, p2, p3⟩ := row2w hR
    go_wp2
    exact bodyPost_ret (results_cW rfl _ _ w.heap.size #[.int .i64 s, .int .i64 (y - 4)] rfl (load_fw (set2W _ _ hR))) rfl ⟨⟨s, y - 4⟩, rfl, ⟨d0, d1, by show -10 ≤ y - 4; omega, by show y - 4 ≤ 40; omega⟩, belW1 (belW1 hB (Nat.le_refl _) _) (Nat.le_refl _) _⟩
  · have e0' : (x == 0) = false := by simpa using e0
    clear e0 j1
    obtain ⟨q0, q1, q2, q3⟩ := row2w hF1
    obtain ⟨p0, p1, p2, p3⟩ := row2w hR1
    go_wp2
    exact bodyPost_ret (results_cW rfl _ _ w.heap.size #[.int .i64 s, .int .i64 r] rfl (load_fw (set2W _ _ hR1))) rfl ⟨⟨s, r⟩, rfl, hd, belW1 (belW1 hB1 (Nat.le_refl _) _) (Nat.le_refl _) _⟩
end Go.Proofs.Ytpgcmjbmkjnjnaa
