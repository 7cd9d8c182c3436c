import Derived.Test.YtafhpcgdlmkbeayEO
import Derived.Test.YtafhpcgdlmkbeayTI6
import Derived.Deep.RegionHeld3
namespace Go.Proofs.Ytafhpcgdlmkbeay
open Go.RowKit
set_option linter.unusedVariables false

set_option maxRecDepth 100000 in
set_option maxHeartbeats 4000000 in
theorem fnExactTableFind_walk (fs : List Fd) (a : Option Addr) (n cap : Nat) (max : Int) (f : Fd) (w : World) (hA : FsA w a n cap fs) (h1 : f.n.size ≤ maxLen) (h2 : f.v.size ≤ maxLen) :
    Calls Try.prog 7 #[.agg #[.slice a n cap, .int .i64 max], f.val] w fun e w' => e = .returned (.bool true) ∧ Below w.heap.size w w' := by
  obtain rfl : fs.length = n := hA.len
  have hb0 : Below w.heap.size w ((w.alloc (.cells #[.slice a fs.length cap, .int .i64 max] 24)).alloc (.cells #[.string f.n, .string f.v, .bool f.q] 34)) := ((Below.refl _ _).alloc (Nat.le_refl _) _).alloc (by simp) _
  have hB0 : Hid (((w.alloc (.cells #[.slice a fs.length cap, .int .i64 max] 24)).alloc (.cells #[.string f.n, .string f.v, .bool f.q] 34)).heap[w.heap.size]? = some (.cells #[.slice a fs.length cap, .int .i64 max] 24 (0, 0))) := blkT (heap_alloc_last w _) _
  have hF0 : Hid (((w.alloc (.cells #[.slice a fs.length cap, .int .i64 max] 24)).alloc (.cells #[.string f.n, .string f.v, .bool f.q] 34)).heap[w.heap.size + 1]? = some (.cells #[.string f.n, .string f.v, .bool f.q] 34 (0, 0))) := by
    have h := heap_alloc_last (w.alloc (.cells #[.slice a fs.length cap, .int .i64 max] 24)) (.cells #[.string f.n, .string f.v, .bool f.q] 34)
    rw [World.size_alloc] at h
    exact h
  have HA : Hid (FsA w a fs.length cap fs) := hA
  have hsz := szTable_any fs a fs.length cap max 1048576 _ (hA.below hb0) (by decide) (by decide)
  unfold Fd.val
  clear hA
  go_enter Try.func7, Try.ntmps7
  go_wp2_with fail
  refine hsz.mono ?_
  clear hsz
  rintro e w1 ⟨r, rfl, hr, hb1⟩
  rcases hr with rfl | ⟨r0, r1, r2, hbd⟩
  · go_wp2
    go_ret
    exact ⟨rfl, bt' hb0 hb1⟩
  have hn : fs.length ≤ 1048576 := by omega
  have hd : decide (r < 0) = false := by rw [decide_eq_false_iff_not]; omega
  have hB1 := blkB2 hb1 hB0.out
  have hF1 := blkB2 hb1 hF0.out
  have hBw1 := bt' hb0 hb1
  obtain ⟨i0, i1⟩ := row2c hB1
  obtain ⟨i2, i3, i4⟩ := row3c hF1
  have hszf := fun w => szField_any f r w h1 h2 r0 (by omega)
  unfold Fd.val at hszf
  by_cases hs : r < (f.n.size : Int) + f.v.size
  · rw [if_pos hs] at hszf
    clear hbd
    go_wp2_with (go_at_call 13; refine (hszf _).mono ?_; clear hszf; rintro e w2 ⟨rfl, hb2⟩)
    go_ret
    exact ⟨rfl, bt' hBw1 hb2⟩
  rw [if_neg hs] at hszf
  have hd2 : decide (r - (f.n.size : Int) - f.v.size < 0) = false := by rw [decide_eq_false_iff_not]; omega
  have hn2 : (0 : Int) ≤ r - (f.n.size : Int) - f.v.size := by omega
  have hto := fun (w' : World) (h : FsA w' a fs.length cap fs) => toTable_any fs a fs.length cap max w' h hn
  unfold TabAns at hto
  simp only at hto
  have hto2 := hto
  have hto3 := hto
  have htf := fun w => toField_any f w
  have hsp := fun (w' : World) (a' : Option Addr) (c' : Nat) (h : Fs w' a' fs.length c' fs) => specTableFind fs a' fs.length c' max f w' h hbd hn (by omega) (by omega)
  have him := fun (w' : World) (a' : Option Addr) (c' : Nat) (h : Fs w' a' fs.length c' fs) => implTableFind fs a' fs.length c' max f w' h hbd hn (by omega) (by omega)
  obtain ⟨⟨x, b⟩, hX⟩ : ∃ r, tabFind fs max f = r := ⟨_, rfl⟩
  rw [hX] at hsp him
  unfold Fd.val at hsp him htf
  simp only at hsp him
  have htf2 := htf
  clear hX hbd
  go_wp2_with (go_at_call 13; refine (hszf _).mono ?_; clear hszf; rintro e V ⟨rfl, hb2⟩)
  have HAV : Hid (FsA V a fs.length cap fs) := HA.out.below (bt' hBw1 hb2)
  have hBV := bt' hBw1 hb2
  obtain ⟨p0, p1⟩ := row2c (blkB2 hb2 hB1)
  obtain ⟨p2, p3, p4⟩ := row3c (blkB2 hb2 hF1)
  have hmx : Try.prog.follows .mixedOrders = true := by kernel_rfl
  clear i0 i1 i2 i3 i4 hB0 hF0 hB1 hF1 hb0 hb1 HA
  have hkeepV : ∀ w1 w2 : World, Below w1.heap.size w1 w2 → (w1.cell? ⟨w.heap.size, 0, none⟩ = some (.slice a fs.length cap) ∧ w1.cell? ⟨w.heap.size, 1, none⟩ = some (.int .i64 max) ∧ w1.cell? ⟨w.heap.size + 1, 0, none⟩ = some (.string f.n) ∧ w1.cell? ⟨w.heap.size + 1, 1, none⟩ = some (.string f.v) ∧ w1.cell? ⟨w.heap.size + 1, 2, none⟩ = some (.bool f.q) ∧ Below V.heap.size V w1) → (w2.cell? ⟨w.heap.size, 0, none⟩ = some (.slice a fs.length cap) ∧ w2.cell? ⟨w.heap.size, 1, none⟩ = some (.int .i64 max) ∧ w2.cell? ⟨w.heap.size + 1, 0, none⟩ = some (.string f.n) ∧ w2.cell? ⟨w.heap.size + 1, 1, none⟩ = some (.string f.v) ∧ w2.cell? ⟨w.heap.size + 1, 2, none⟩ = some (.bool f.q) ∧ Below V.heap.size V w2) := by
    rintro w1 w2 hb ⟨h0, h1, h2, h3, h4, hB⟩
    exact ⟨keepc hb h0, keepc hb h1, keepc hb h2, keepc hb h3, keepc hb h4, bt' hB hb⟩
  have hBelV : ∀ w' : World, (w'.cell? ⟨w.heap.size, 0, none⟩ = some (.slice a fs.length cap) ∧ w'.cell? ⟨w.heap.size, 1, none⟩ = some (.int .i64 max) ∧ w'.cell? ⟨w.heap.size + 1, 0, none⟩ = some (.string f.n) ∧ w'.cell? ⟨w.heap.size + 1, 1, none⟩ = some (.string f.v) ∧ w'.cell? ⟨w.heap.size + 1, 2, none⟩ = some (.bool f.q) ∧ Below V.heap.size V w') → Below V.heap.size V w' := fun w' h => h.2.2.2.2.2
  have hV0 : V.cell? ⟨w.heap.size, 0, none⟩ = some (.slice a fs.length cap) ∧ V.cell? ⟨w.heap.size, 1, none⟩ = some (.int .i64 max) ∧ V.cell? ⟨w.heap.size + 1, 0, none⟩ = some (.string f.n) ∧ V.cell? ⟨w.heap.size + 1, 1, none⟩ = some (.string f.v) ∧ V.cell? ⟨w.heap.size + 1, 2, none⟩ = some (.bool f.q) ∧ Below V.heap.size V V := ⟨p0, p1, p2, p3, p4, Below.refl _ _⟩
  clear p0 p1 p2 p3 p4
  go_region_held3 (fun w' => w'.cell? ⟨w.heap.size, 0, none⟩ = some (.slice a fs.length cap) ∧ w'.cell? ⟨w.heap.size, 1, none⟩ = some (.int .i64 max) ∧ w'.cell? ⟨w.heap.size + 1, 0, none⟩ = some (.string f.n) ∧ w'.cell? ⟨w.heap.size + 1, 1, none⟩ = some (.string f.v) ∧ w'.cell? ⟨w.heap.size + 1, 2, none⟩ = some (.bool f.q) ∧ Below V.heap.size V w') (first | assumption | exact hkeepV _ _ ((Below.refl _ _).drew) hV0 | exact hkeepV _ _ hbN (by assumption)) ((first | (go_at_call 10; refine (hto _ (HAV.out.below (hBelV _ (by assumption)))).mono ?_; clear hto; rintro e wN ⟨vN, rfl, hownN, hbN⟩; obtain ⟨aN, cN, rfl⟩ := own_formT hownN; have hFN := own_Fs hownN; clear hownN) | (go_at_call 15; refine (htf _).mono ?_; clear htf; rintro e wN ⟨rfl, hbN⟩; have hFM := hFN.below hbN) | (go_at_call 24; refine (hsp _ _ _ hFM).mono ?_; clear hsp; rintro e wN ⟨rfl, hbN⟩)))
  have hV1 : wN.cell? ⟨w.heap.size, 0, none⟩ = some (.slice a fs.length cap) ∧ wN.cell? ⟨w.heap.size, 1, none⟩ = some (.int .i64 max) ∧ wN.cell? ⟨w.heap.size + 1, 0, none⟩ = some (.string f.n) ∧ wN.cell? ⟨w.heap.size + 1, 1, none⟩ = some (.string f.v) ∧ wN.cell? ⟨w.heap.size + 1, 2, none⟩ = some (.bool f.q) ∧ Below V.heap.size V wN := by first | assumption | exact hkeepV _ _ hbN (by assumption)
  clear hV0
  obtain ⟨p0, p1, p2, p3, p4, pB⟩ := id hV1
  have HAN := HAV.out.below pB
  go_wp2_with (go_at_call 10; refine (hto2 _ HAN).mono ?_; clear hto2; rintro e w4 ⟨v4, rfl, hown4, hb4⟩; obtain ⟨a4, c4, rfl⟩ := own_formT hown4)
  have hV4 := hkeepV _ _ hb4 hV1
  have hbx : Below w4.heap.size w4 (w4.alloc (.cells #[.slice a4 fs.length c4, .int .i64 max] 29)) := (Below.refl _ _).alloc (Nat.le_refl _) _
  have hV5 := hkeepV _ _ hbx hV4
  obtain ⟨s0, s1, s2, s3, s4, sB⟩ := id hV5
  obtain ⟨x0, x1⟩ := row2c (heap_alloc_last w4 (.cells #[.slice a4 fs.length c4, .int .i64 max] 29))
  refine wabs (fun U => U.cell? ⟨w4.heap.size, 0, none⟩ = some (.slice a4 fs.length c4) ∧ U.cell? ⟨w4.heap.size, 1, none⟩ = some (.int .i64 max) ∧ Fs U a4 fs.length c4 fs ∧ U.cell? ⟨w.heap.size, 0, none⟩ = some (.slice a fs.length cap) ∧ U.cell? ⟨w.heap.size, 1, none⟩ = some (.int .i64 max) ∧ U.cell? ⟨w.heap.size + 1, 0, none⟩ = some (.string f.n) ∧ U.cell? ⟨w.heap.size + 1, 1, none⟩ = some (.string f.v) ∧ U.cell? ⟨w.heap.size + 1, 2, none⟩ = some (.bool f.q) ∧ Below V.heap.size V U) ⟨x0, x1, (own_Fs hown4).below hbx, hV5⟩ ?_
  clear s0 s1 s2 s3 s4 sB x0 x1 hbx hV5 hV4 p0 p1 p2 p3 p4 pB hV1 HAN hown4 hb4
  rintro U ⟨x0, x1, hFU, hUV⟩
  obtain ⟨s0, s1, s2, s3, s4, sB⟩ := hUV
  have HFU : Hid (Fs U a4 fs.length c4 fs) := hFU
  have HAU : Hid (FsA U a fs.length cap fs) := HAV.out.below sB
  have hBU := bt' hBV sB
  clear hFU sB
  have hkeepU : ∀ w1 w2 : World, Below w1.heap.size w1 w2 → (w1.cell? ⟨w.heap.size, 0, none⟩ = some (.slice a fs.length cap) ∧ w1.cell? ⟨w.heap.size, 1, none⟩ = some (.int .i64 max) ∧ w1.cell? ⟨w.heap.size + 1, 0, none⟩ = some (.string f.n) ∧ w1.cell? ⟨w.heap.size + 1, 1, none⟩ = some (.string f.v) ∧ w1.cell? ⟨w.heap.size + 1, 2, none⟩ = some (.bool f.q) ∧ w1.cell? ⟨w4.heap.size, 0, none⟩ = some (.slice a4 fs.length c4) ∧ w1.cell? ⟨w4.heap.size, 1, none⟩ = some (.int .i64 max) ∧ Below U.heap.size U w1) → (w2.cell? ⟨w.heap.size, 0, none⟩ = some (.slice a fs.length cap) ∧ w2.cell? ⟨w.heap.size, 1, none⟩ = some (.int .i64 max) ∧ w2.cell? ⟨w.heap.size + 1, 0, none⟩ = some (.string f.n) ∧ w2.cell? ⟨w.heap.size + 1, 1, none⟩ = some (.string f.v) ∧ w2.cell? ⟨w.heap.size + 1, 2, none⟩ = some (.bool f.q) ∧ w2.cell? ⟨w4.heap.size, 0, none⟩ = some (.slice a4 fs.length c4) ∧ w2.cell? ⟨w4.heap.size, 1, none⟩ = some (.int .i64 max) ∧ Below U.heap.size U w2) := by
    rintro w1 w2 hb ⟨h0, h1, h2, h3, h4, h5, h6, hB⟩
    exact ⟨keepc hb h0, keepc hb h1, keepc hb h2, keepc hb h3, keepc hb h4, keepc hb h5, keepc hb h6, bt' hB hb⟩
  have hBelU : ∀ w' : World, (w'.cell? ⟨w.heap.size, 0, none⟩ = some (.slice a fs.length cap) ∧ w'.cell? ⟨w.heap.size, 1, none⟩ = some (.int .i64 max) ∧ w'.cell? ⟨w.heap.size + 1, 0, none⟩ = some (.string f.n) ∧ w'.cell? ⟨w.heap.size + 1, 1, none⟩ = some (.string f.v) ∧ w'.cell? ⟨w.heap.size + 1, 2, none⟩ = some (.bool f.q) ∧ w'.cell? ⟨w4.heap.size, 0, none⟩ = some (.slice a4 fs.length c4) ∧ w'.cell? ⟨w4.heap.size, 1, none⟩ = some (.int .i64 max) ∧ Below U.heap.size U w') → Below U.heap.size U w' := fun w' h => h.2.2.2.2.2.2.2
  have hU0 : U.cell? ⟨w.heap.size, 0, none⟩ = some (.slice a fs.length cap) ∧ U.cell? ⟨w.heap.size, 1, none⟩ = some (.int .i64 max) ∧ U.cell? ⟨w.heap.size + 1, 0, none⟩ = some (.string f.n) ∧ U.cell? ⟨w.heap.size + 1, 1, none⟩ = some (.string f.v) ∧ U.cell? ⟨w.heap.size + 1, 2, none⟩ = some (.bool f.q) ∧ U.cell? ⟨w4.heap.size, 0, none⟩ = some (.slice a4 fs.length c4) ∧ U.cell? ⟨w4.heap.size, 1, none⟩ = some (.int .i64 max) ∧ Below U.heap.size U U := ⟨s0, s1, s2, s3, s4, x0, x1, Below.refl _ _⟩
  clear s0 s1 s2 s3 s4 x0 x1
  go_region_held3 (fun w' => w'.cell? ⟨w.heap.size, 0, none⟩ = some (.slice a fs.length cap) ∧ w'.cell? ⟨w.heap.size, 1, none⟩ = some (.int .i64 max) ∧ w'.cell? ⟨w.heap.size + 1, 0, none⟩ = some (.string f.n) ∧ w'.cell? ⟨w.heap.size + 1, 1, none⟩ = some (.string f.v) ∧ w'.cell? ⟨w.heap.size + 1, 2, none⟩ = some (.bool f.q) ∧ w'.cell? ⟨w4.heap.size, 0, none⟩ = some (.slice a4 fs.length c4) ∧ w'.cell? ⟨w4.heap.size, 1, none⟩ = some (.int .i64 max) ∧ Below U.heap.size U w') (first | assumption | exact hkeepU _ _ ((Below.refl _ _).drew) hU0 | exact hkeepU _ _ hbN (by assumption)) ((first | (go_at_call 15; refine (htf2 _).mono ?_; clear htf2; rintro e wN ⟨rfl, hbN⟩) | (go_at_call 25; refine (him _ _ _ (HFU.out.below (hBelU _ (by assumption)))).mono ?_; clear him; rintro e wN ⟨rfl, hbN⟩)))
  have hU1 : wN.cell? ⟨w.heap.size, 0, none⟩ = some (.slice a fs.length cap) ∧ wN.cell? ⟨w.heap.size, 1, none⟩ = some (.int .i64 max) ∧ wN.cell? ⟨w.heap.size + 1, 0, none⟩ = some (.string f.n) ∧ wN.cell? ⟨w.heap.size + 1, 1, none⟩ = some (.string f.v) ∧ wN.cell? ⟨w.heap.size + 1, 2, none⟩ = some (.bool f.q) ∧ wN.cell? ⟨w4.heap.size, 0, none⟩ = some (.slice a4 fs.length c4) ∧ wN.cell? ⟨w4.heap.size, 1, none⟩ = some (.int .i64 max) ∧ Below U.heap.size U wN := by first | assumption | exact hkeepU _ _ hbN (by assumption)
  clear hU0
  go_wp2
  go_region_held3 (fun w' => w'.cell? ⟨w.heap.size, 0, none⟩ = some (.slice a fs.length cap) ∧ w'.cell? ⟨w.heap.size, 1, none⟩ = some (.int .i64 max) ∧ w'.cell? ⟨w.heap.size + 1, 0, none⟩ = some (.string f.n) ∧ w'.cell? ⟨w.heap.size + 1, 1, none⟩ = some (.string f.v) ∧ w'.cell? ⟨w.heap.size + 1, 2, none⟩ = some (.bool f.q) ∧ w'.cell? ⟨w4.heap.size, 0, none⟩ = some (.slice a4 fs.length c4) ∧ w'.cell? ⟨w4.heap.size, 1, none⟩ = some (.int .i64 max) ∧ Below U.heap.size U w') (first | assumption | exact hkeepU _ _ ((Below.refl _ _).drew) hU1 | exact hkeepU _ _ hbN (by assumption)) ((first | (go_at_call 10; refine (hto3 _ (HAU.out.below (hBelU _ (by assumption)))).mono ?_; clear hto3; rintro e wN ⟨vN, rfl, hownN, hbN⟩; obtain ⟨aN, cN, rfl⟩ := own_formT hownN; have hFN := own_Fs hownN; clear hownN) | (go_at_call 12; refine (eqTable_same fs a4 aN c4 cN max _ (HFU.out.below (hBelU _ (by assumption))) hFN hn).mono ?_; clear hFN; rintro e wN ⟨rfl, hbN⟩)))
  go_wp2
  go_ret
  exact ⟨rfl, bt' hBU (hBelU _ (by first | assumption | exact hkeepU _ _ hbN (by assumption)))⟩
end Go.Proofs.Ytafhpcgdlmkbeay
