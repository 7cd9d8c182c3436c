import Derived.Test.YtafhpcgdlmkbeayEM3
import Derived.Deep.RegionHeld3
namespace Go.Proofs.Ytafhpcgdlmkbeay
open Go.RowKit
set_option linter.unusedVariables false

set_option maxRecDepth 100000 in
set_option maxHeartbeats 8000000 in
theorem fnExactTableLimit_walk (fs : List Fd) (a : Option Addr) (n cap : Nat) (max : Int) (most : Int) (w : World) (hA : FsA w a n cap fs) :
    Calls Try.prog 5 #[.agg #[.slice a n cap, .int .i64 max], .int .i64 most] w fun e w' => e = .returned (.bool true) ∧ Below w.heap.size w w' := by
  obtain rfl : fs.length = n := hA.len
  have hb0 : Below w.heap.size w (w.alloc (.cells #[.slice a fs.length cap, .int .i64 max] 24)) := (Below.refl _ _).alloc (Nat.le_refl _) _
  have hB0 : Hid ((w.alloc (.cells #[.slice a fs.length cap, .int .i64 max] 24)).heap[w.heap.size]? = some (.cells #[.slice a fs.length cap, .int .i64 max] 24 (0, 0))) := heap_alloc_last w _
  have HA : Hid (FsA w a fs.length cap fs) := hA
  have hsz := szTable_any fs a fs.length cap max 1048576 _ (hA.below hb0) (by decide) (by decide)
  clear hA
  go_enter Try.func5, Try.ntmps5
  go_wp2_with fail
  refine hsz.mono ?_
  clear hsz
  rintro e w1 ⟨r, rfl, hr, hb1⟩
  rcases hr with rfl | ⟨r0, r1, r2, hbd⟩
  · go_wp2
    go_ret
    exact ⟨rfl, bt' hb0 hb1⟩
  have hn : fs.length ≤ 1048576 := by omega
  have hd : decide (r < 0) = false := by rw [decide_eq_false_iff_not]; omega
  have hto := fun (w' : World) (h : FsA w' a fs.length cap fs) => toTable_any fs a fs.length cap max w' h hn
  unfold TabAns at hto
  simp only at hto
  have hsp := fun (w' : World) (a' : Option Addr) (c' : Nat) (h : Fs w' a' fs.length c' fs) => specTableLimit fs a' fs.length c' max most w' h hbd hn
  have him := fun (w' : World) (a' : Option Addr) (c' : Nat) (h : Fs w' a' fs.length c' fs) => implTableLimit fs a' fs.length c' max most w' h hbd hn
  have hxl := limV_len fs max most
  obtain ⟨⟨xs, mx⟩, hX⟩ : ∃ r, limV fs max most = r := ⟨_, rfl⟩
  rw [hX] at hsp him hxl
  unfold TabAns at hsp him
  simp only at hsp him hxl
  have hxn : xs.length ≤ 1048576 := by omega
  clear hX hbd
  have hB1 := blkB2 hb1 hB0.out
  have hBw1 := bt' hb0 hb1
  obtain ⟨i0, i1⟩ := row2c hB1
  go_wp2_with fail
  refine (hto _ (HA.out.below hBw1)).mono ?_
  rintro e w2 ⟨v2, rfl, hown2, hb2⟩
  obtain ⟨a2, c2, rfl⟩ := own_formT hown2
  have hB2 := blkB2 hb2 hB1
  have hBw2 := bt' hBw1 hb2
  go_wp2_with fail
  refine (hsp _ a2 c2 (own_Fs hown2)).mono ?_
  clear hsp
  rintro e w3 ⟨v3, rfl, oS, hb3⟩
  obtain ⟨a3, c3, rfl⟩ := own_formT oS
  have hB3 := blkB2 hb3 hB2
  have hBw3 := bt' hBw2 hb3
  have hl3 : ∀ q, (Value.slice a3 xs.length c3).ownBlock = some q → q < w3.heap.size := fun q e => (oS.lt q e).2
  have hbs : Below w3.heap.size w3 (w3.alloc (.cells #[.slice a3 xs.length c3, .int .i64 mx] 29)) := (Below.refl _ _).alloc (Nat.le_refl _) _
  have hS3 := heap_alloc_last w3 (.cells #[.slice a3 xs.length c3, .int .i64 mx] 29)
  have hB3' := blkB2 hbs hB3
  obtain ⟨j0, j1⟩ := row2c hB3'
  have hlt3 : w.heap.size < w3.heap.size := (Array.getElem?_eq_some_iff.1 hB3).1
  have hBw3' := bt' hBw3 hbs
  have oS3 := own_belowT oS hbs
  clear hB0 hb1 hb2 hown2 hB1 hB2 hBw1 hBw2 hB3 hBw3 oS i0 i1
  go_wp2_with fail
  refine (hto _ (HA.out.below hBw3')).mono ?_
  rintro e w4 ⟨v4, rfl, oX, hb4⟩
  obtain ⟨a4, c4, rfl⟩ := own_formT oX
  rw [World.size_alloc] at oX
  have oS4 := own_belowT oS3 hb4
  have hB4 := blkB2 hb4 hB3'
  have hS4 := blkB2 hb4 hS3
  have hBw4 := bt' hBw3' hb4
  have hl4 : ∀ q, (Value.slice a4 fs.length c4).ownBlock = some q → q < w4.heap.size := fun q e => (oX.lt q e).2
  have hbx : Below w4.heap.size w4 (w4.alloc (.cells #[.slice a4 fs.length c4, .int .i64 max] 29)) := (Below.refl _ _).alloc (Nat.le_refl _) _
  have hX4 := heap_alloc_last w4 (.cells #[.slice a4 fs.length c4, .int .i64 max] 29)
  have oS4' := own_belowT oS4 hbx
  have oX4' := own_belowT oX hbx
  have hB4' := blkB2 hbx hB4
  have hS4' := blkB2 hbx hS4
  have hBw4' := bt' hBw4 hbx
  go_wp2_with fail
  refine (him _ a4 c4 (own_Fs oX4')).mono ?_
  rintro e w5 ⟨v5, rfl, oG, hb5⟩
  obtain ⟨a5, c5, rfl⟩ := own_formT oG
  rw [World.size_alloc] at oG
  have oS5 := own_belowT oS4' hb5
  have oX5 := own_belowT oX4' hb5
  have hB5 := blkB2 hb5 hB4'
  have hS5 := blkB2 hb5 hS4'
  have hX5 := blkB2 hb5 hX4
  have hBw5 := bt' hBw4' hb5
  have hbg : Below w5.heap.size w5 (w5.alloc (.cells #[.slice a5 xs.length c5, .int .i64 mx] 29)) := (Below.refl _ _).alloc (Nat.le_refl _) _
  have hz34 : w3.heap.size + 1 ≤ w4.heap.size := by have := hb4.size; rwa [World.size_alloc] at this
  have hz45 : w4.heap.size + 1 ≤ w5.heap.size := by have := hb5.size; rwa [World.size_alloc] at this
  have hB := blkB2 hbg hB5
  have hS := blkB2 hbg hS5
  have hX := blkB2 hbg hX5
  have hG := heap_alloc_last w5 (.cells #[.slice a5 xs.length c5, .int .i64 mx] 29)
  have oS := own_belowT oS5 hbg
  have oX := own_belowT oX5 hbg
  have oG := own_belowT oG hbg
  have hBV := bt' hBw5 hbg
  have hlS5 := (Array.getElem?_eq_some_iff.1 hS5).1
  clear hbg hB5 hS5 hX5 oS5 oX5 hBw5 hb5 hB4' hS4' hX4 oS4' oX4' hBw4' hbx hB4 hS4 hBw4 oS4 hb4 oS3 hBw3' j0 j1 hB3' hS3 hbs hb3
  obtain ⟨g0, g1⟩ := row2c hG
  obtain ⟨s0, s1⟩ := row2c hS
  go_wp2_with fail
  refine (eqTable_same xs a5 a3 c5 c3 mx _ (own_Fs oG) (own_Fs oS) hxn).mono ?_
  rintro e V1 ⟨rfl, hc1⟩
  have hB1 := blkB2 hc1 hB
  have hS1 := blkB2 hc1 hS
  have hX1 := blkB2 hc1 hX
  have hG1 := blkB2 hc1 hG
  have oS1 := own_belowT oS hc1
  have oX1 := own_belowT oX hc1
  have oG1 := own_belowT oG hc1
  have hBV1 := bt' hBV hc1
  clear hB hS hX hG oS oX oG hBV hc1 g0 g1 s0 s1
  obtain ⟨p0, p1⟩ := row2c hX1
  obtain ⟨p2, p3⟩ := row2c hB1
  have hmx : Try.prog.follows .mixedOrders = true := by kernel_rfl
  have HAV : Hid (FsA V1 a fs.length cap fs) := HA.out.below hBV1
  have hFV : Hid (Fs V1 a4 fs.length c4 fs) := own_Fs oX1
  have hto3 := hto
  have hkeepV : ∀ w1 w2 : World, Below w1.heap.size w1 w2 → (w1.cell? ⟨w4.heap.size, 0, none⟩ = some (.slice a4 fs.length c4) ∧ w1.cell? ⟨w4.heap.size, 1, none⟩ = some (.int .i64 max) ∧ w1.cell? ⟨w.heap.size, 0, none⟩ = some (.slice a fs.length cap) ∧ w1.cell? ⟨w.heap.size, 1, none⟩ = some (.int .i64 max) ∧ Below V1.heap.size V1 w1) → (w2.cell? ⟨w4.heap.size, 0, none⟩ = some (.slice a4 fs.length c4) ∧ w2.cell? ⟨w4.heap.size, 1, none⟩ = some (.int .i64 max) ∧ w2.cell? ⟨w.heap.size, 0, none⟩ = some (.slice a fs.length cap) ∧ w2.cell? ⟨w.heap.size, 1, none⟩ = some (.int .i64 max) ∧ Below V1.heap.size V1 w2) := by
    rintro w1 w2 hb ⟨h0, h1, h2, h3, hB⟩
    exact ⟨keepc hb h0, keepc hb h1, keepc hb h2, keepc hb h3, bt' hB hb⟩
  have hBelV : ∀ w' : World, (w'.cell? ⟨w4.heap.size, 0, none⟩ = some (.slice a4 fs.length c4) ∧ w'.cell? ⟨w4.heap.size, 1, none⟩ = some (.int .i64 max) ∧ w'.cell? ⟨w.heap.size, 0, none⟩ = some (.slice a fs.length cap) ∧ w'.cell? ⟨w.heap.size, 1, none⟩ = some (.int .i64 max) ∧ Below V1.heap.size V1 w') → Below V1.heap.size V1 w' := fun w' h => h.2.2.2.2
  have hV0 : V1.cell? ⟨w4.heap.size, 0, none⟩ = some (.slice a4 fs.length c4) ∧ V1.cell? ⟨w4.heap.size, 1, none⟩ = some (.int .i64 max) ∧ V1.cell? ⟨w.heap.size, 0, none⟩ = some (.slice a fs.length cap) ∧ V1.cell? ⟨w.heap.size, 1, none⟩ = some (.int .i64 max) ∧ Below V1.heap.size V1 V1 := ⟨p0, p1, p2, p3, Below.refl _ _⟩
  clear p0 p1 p2 p3
  go_wp2
  go_region_held3 (fun w' => w'.cell? ⟨w4.heap.size, 0, none⟩ = some (.slice a4 fs.length c4) ∧ w'.cell? ⟨w4.heap.size, 1, none⟩ = some (.int .i64 max) ∧ w'.cell? ⟨w.heap.size, 0, none⟩ = some (.slice a fs.length cap) ∧ w'.cell? ⟨w.heap.size, 1, none⟩ = some (.int .i64 max) ∧ Below V1.heap.size V1 w') (first | assumption | exact hkeepV _ _ ((Below.refl _ _).drew) hV0 | exact hkeepV _ _ hbN (by assumption)) ((first | (go_at_call 10; refine (hto3 _ (HAV.out.below (hBelV _ (by assumption)))).mono ?_; clear hto3; rintro e wN ⟨vN, rfl, hownN, hbN⟩; obtain ⟨aN, cN, rfl⟩ := own_formT hownN; have hFN := own_Fs hownN; clear hownN) | (go_at_call 12; refine (eqTable_same fs a4 aN c4 cN max _ (hFV.out.below (hBelV _ (by assumption))) hFN hn).mono ?_; clear hFN; rintro e wN ⟨rfl, hbN⟩)))
  have hV1 : wN.cell? ⟨w4.heap.size, 0, none⟩ = some (.slice a4 fs.length c4) ∧ wN.cell? ⟨w4.heap.size, 1, none⟩ = some (.int .i64 max) ∧ wN.cell? ⟨w.heap.size, 0, none⟩ = some (.slice a fs.length cap) ∧ wN.cell? ⟨w.heap.size, 1, none⟩ = some (.int .i64 max) ∧ Below V1.heap.size V1 wN := by first | assumption | exact hkeepV _ _ hbN (by assumption)
  have hcN := hBelV _ hV1
  have hB2 := blkB2 hcN hB1
  have hS2 := blkB2 hcN hS1
  have hX2 := blkB2 hcN hX1
  have hG2 := blkB2 hcN hG1
  have oS2 := own_belowT oS1 hcN
  have oX2 := own_belowT oX1 hcN
  have oG2 := own_belowT oG1 hcN
  have hBV2 := bt' hBV1 hcN
  clear hB1 hS1 hX1 hG1 oS1 oX1 oG1 hBV1 hcN hV0 hV1 HAV hFV
  obtain ⟨x0, x1⟩ := row2c hX2
  go_wp2_with fail
  refine (markTable_any _ _ _ _ _ max _ oX2 (by omega)).mono ?_
  rintro e V3 ⟨rfl, oX3, hg3⟩
  have hB3 := row_aside hB2 (by decide) oX2 hg3
  have hS3 := row_aside hS2 (by decide) oX2 hg3
  have hG3 := row_aside hG2 (by decide) oX2 hg3
  have oS3 := own_aside1 oS2 oX2 (fun q e => by have := hl3 q e; omega) hg3
  have oG3 : V3.ownsRow (w4.heap.size + 1) 37 3 (.slice a5 xs.length c5) xs.length (cellsF xs) := own_aside2 (base' := 0) (n' := 0) (e' := 0) (ys := []) oG2 (fun q e => by have := hl4 q e; omega) hg3
  have hBV3 : Below w.heap.size w V3 := hBV2.grown hg3 hBV2.size (fun q hq => by have := (oX2.lt q hq).1; omega)
  clear hB2 hS2 hX2 hG2 oS2 oX2 oG2 hBV2 hg3 x0 x1 oX3
  obtain ⟨g0, g1⟩ := row2c hG3
  obtain ⟨s0, s1⟩ := row2c hS3
  have hdk : decide (((1 + 3 * fs.length : Nat) : Int) < 0) = false := by rw [decide_eq_false_iff_not]; omega
  have hdk2 : ¬ ((1 + 3 * fs.length : Nat) : Int) < 0 := by omega
  obtain ⟨K1, hK1⟩ : ∃ K : Nat, 1 + 3 * fs.length = K := ⟨_, rfl⟩
  rw [hK1] at hdk hdk2 ⊢
  clear hK1
  go_wp2_with fail
  refine (eqTable_same xs a5 a3 c5 c3 mx _ (own_Fs oG3) (own_Fs oS3) hxn).mono ?_
  rintro e V4 ⟨rfl, hc4⟩
  have hB4 := blkB2 hc4 hB3
  have hS4 := blkB2 hc4 hS3
  have hG4 := blkB2 hc4 hG3
  have oS4 := own_belowT oS3 hc4
  have oG4 := own_belowT oG3 hc4
  have hBV4 := bt' hBV3 hc4
  clear hB3 hS3 hG3 oS3 oG3 hBV3 hc4 g0 g1 s0 s1
  obtain ⟨g0, g1⟩ := row2c hG4
  go_wp2_with fail
  refine (markTable_any _ _ _ _ _ mx _ oG4 (by omega)).mono ?_
  rintro e V5 ⟨rfl, oG5, hg5⟩
  have hB5 := row_aside hB4 (by decide) oG4 hg5
  have hS5 := row_aside hS4 (by decide) oG4 hg5
  have hG5 := row_aside hG4 (by decide) oG4 hg5
  have oS5 := own_aside1 oS4 oG4 (fun q e => by have := hl3 q e; omega) hg5
  have hBV5 : Below w.heap.size w V5 := hBV4.grown hg5 hBV4.size (fun q hq => by have := (oG4.lt q hq).1; omega)
  clear hB4 hS4 hG4 oS4 oG4 hBV4 hg5 g0 g1
  obtain ⟨g0, g1⟩ := row2c hG5
  have hh := fun (w' : World) (h : Fs w' a5 xs.length c5 (marks 1 xs.length)) => heldTable_any xs.length c5 a5 mx w' h (by omega)
  obtain ⟨K, hK⟩ : ∃ K : Nat, 1 + 3 * xs.length = K := ⟨_, rfl⟩
  rw [hK] at hh ⊢
  have hdK : decide ((K : Int) < 0) = false := by rw [decide_eq_false_iff_not]; omega
  have hdK2 : ¬ (K : Int) < 0 := by omega
  clear hK
  go_wp2_with fail
  refine (hh _ (own_Fs oG5)).mono ?_
  rintro e V6 ⟨rfl, hc6⟩
  have hB6 := blkB2 hc6 hB5
  have hS6 := blkB2 hc6 hS5
  have hG6 := blkB2 hc6 hG5
  have oS6 := own_belowT oS5 hc6
  have oG6 := own_belowT oG5 hc6
  have hBV6 := bt' hBV5 hc6
  clear hB5 hS5 hG5 oS5 oG5 hBV5 hc6 g0 g1
  obtain ⟨b0, b1⟩ := row2c hB6
  go_wp2_with fail
  refine (hto _ (HA.out.below hBV6)).mono ?_
  rintro e V7 ⟨v7, rfl, oY, hc7⟩
  obtain ⟨a7, c7, rfl⟩ := own_formT oY
  have hS7 := blkB2 hc7 hS6
  have hG7 := blkB2 hc7 hG6
  have oS7 := own_belowT oS6 hc7
  have oG7 := own_belowT oG6 hc7
  have hBV7 := bt' hBV6 hc7
  clear hB6 hS6 hG6 oS6 oG6 hBV6 hc7 b0 b1
  go_wp2_with fail
  refine (him _ a7 c7 (own_Fs oY)).mono ?_
  rintro e V8 ⟨v8, rfl, oH, hc8⟩
  obtain ⟨a8, c8, rfl⟩ := own_formT oH
  have hbh : Below V8.heap.size V8 (V8.alloc (.cells #[.slice a8 xs.length c8, .int .i64 mx] 29)) := (Below.refl _ _).alloc (Nat.le_refl _) _
  have hH8 := heap_alloc_last V8 (.cells #[.slice a8 xs.length c8, .int .i64 mx] 29)
  have hS8 := blkB2 hc8 hS7
  have hS8' := blkB2 hbh hS8
  have hG8' := blkB2 hbh (blkB2 hc8 hG7)
  have oS8 := own_belowT (own_belowT oS7 hc8) hbh
  have oG8 := own_belowT (own_belowT oG7 hc8) hbh
  have oH8 := own_belowT oH hbh
  have hBV8 := bt' (bt' hBV7 hc8) hbh
  obtain ⟨h0, h1⟩ := row2c hH8
  obtain ⟨s0, s1⟩ := row2c hS8'
  have hlS := (Array.getElem?_eq_some_iff.1 hS8).1
  clear hS7 hG7 oS7 oG7 hBV7 hc8 oH oY hS8
  go_wp2_with fail
  refine (eqTable_same xs a8 a3 c8 c3 mx _ (own_Fs oH8) (own_Fs oS8) hxn).mono ?_
  rintro e V9 ⟨rfl, hc9⟩
  have hG9 := blkB2 hc9 hG8'
  have oG9 := own_belowT oG8 hc9
  have hBV9 := bt' hBV8 hc9
  obtain ⟨g0, g1⟩ := row2c hG9
  clear h0 h1 s0 s1 hH8 hS8' hG8' oS8 oG8 oH8 hBV8 hc9
  go_wp2_with fail
  refine (hh _ (own_Fs oG9)).mono ?_
  rintro e Va ⟨rfl, hca⟩
  go_wp2
  go_ret
  exact ⟨rfl, bt' hBV9 hca⟩
end Go.Proofs.Ytafhpcgdlmkbeay
