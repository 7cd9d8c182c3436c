import Derived.Test.YtafhpcgdlmkbeayEO
import Derived.Test.YtafhpcgdlmkbeayTI5
import Derived.Deep.RegionHeld3
namespace Go.Proofs.Ytafhpcgdlmkbeay
open Go.RowKit
set_option linter.unusedVariables false

set_option maxRecDepth 100000 in
set_option maxHeartbeats 4000000 in
theorem fnExactTableAt_walk (fs : List Fd) (a : Option Addr) (n cap : Nat) (max : Int) (at' : Int) (w : World) (hA : FsA w a n cap fs) :
    Calls Try.prog 6 #[.agg #[.slice a n cap, .int .i64 max], .int .i64 at'] w fun e w' => e = .returned (.bool true) ∧ Below w.heap.size w w' := by
  obtain rfl : fs.length = n := hA.len
  have hb0 : Below w.heap.size w (w.alloc (.cells #[.slice a fs.length cap, .int .i64 max] 24)) := (Below.refl _ _).alloc (Nat.le_refl _) _
  have hB0 : Hid ((w.alloc (.cells #[.slice a fs.length cap, .int .i64 max] 24)).heap[w.heap.size]? = some (.cells #[.slice a fs.length cap, .int .i64 max] 24 (0, 0))) := heap_alloc_last w _
  have HA : Hid (FsA w a fs.length cap fs) := hA
  have hsz := szTable_any fs a fs.length cap max 1048576 _ (hA.below hb0) (by decide) (by decide)
  clear hA
  go_enter Try.func6, Try.ntmps6
  go_wp2_with fail
  refine hsz.mono ?_
  clear hsz
  rintro e w1 ⟨r, rfl, hr, hb1⟩
  rcases hr with rfl | ⟨r0, r1, r2, hbd⟩
  · go_wp2
    go_ret
    exact ⟨rfl, bt' hb0 hb1⟩
  have hn : fs.length ≤ 1048576 := by omega
  have hto := fun (w' : World) (h : FsA w' a fs.length cap fs) => toTable_any fs a fs.length cap max w' h hn
  unfold TabAns at hto
  simp only at hto
  have hto2 := hto
  have hto3 := hto
  have hsp := fun (w' : World) (a' : Option Addr) (c' : Nat) (h : Fs w' a' fs.length c' fs) => specTableAt fs a' fs.length c' max at' w' h hbd hn
  have him := fun (w' : World) (a' : Option Addr) (c' : Nat) (h : Fs w' a' fs.length c' fs) => implTableAt fs a' fs.length c' max at' w' h hbd hn
  obtain ⟨⟨x, b⟩, hX⟩ : ∃ r, tabAt fs max at' = r := ⟨_, rfl⟩
  rw [hX] at hsp him
  unfold Fd.val at hsp him
  simp only at hsp him
  clear hX
  have hd : decide (r < 0) = false := by rw [decide_eq_false_iff_not]; omega
  have HBD : Hid (fsBd fs) := hbd
  clear hbd
  have hB1 := blkB2 hb1 hB0.out
  have HA1 : Hid (FsA w1 a fs.length cap fs) := HA.out.below (bt' hb0 hb1)
  have hBw1 := bt' hb0 hb1
  obtain ⟨i0, i1⟩ := row2c hB1
  clear hb0 hB0 hb1 HA
  have heq := fun w => eqField_any x x w
  rw [eqF_iff.2 rfl] at heq
  unfold Fd.val at heq
  go_wp2_with (first | (go_at_call 10; refine (hto _ HA1.out).mono ?_; clear hto; rintro e w2 ⟨v2, rfl, hown2, hb2⟩; obtain ⟨a2, c2, rfl⟩ := own_formT hown2; have hF2 := own_Fs hown2; have hB2 := blkB2 hb2 hB1; have hBw2 := bt' hBw1 hb2) | (go_at_call 21; refine (hsp _ a2 c2 hF2).mono ?_; clear hsp; rintro e w3 ⟨rfl, hb3⟩; have hB3 := blkB2 hb3 hB2; have hBw3 := bt' hBw2 hb3; have hbw : Below w3.heap.size w3 (w3.alloc (.cells #[.string x.n, .string x.v, .bool x.q] 37)) := (Below.refl _ _).alloc (Nat.le_refl _) _; have hW3 := heap_alloc_last w3 (.cells #[.string x.n, .string x.v, .bool x.q] 37); have hB3' := blkB2 hbw hB3; have hBw3' := bt' hBw3 hbw; obtain ⟨j0, j1⟩ := row2c hB3'; have hlt3 := (Array.getElem?_eq_some_iff.1 hB3).1; have HA3 := HA1.out.below (bt' (bt' hb2 hb3) hbw)) | (go_at_call 10; refine (hto2 _ HA3).mono ?_; clear hto2; rintro e w4 ⟨v4, rfl, hown4, hb4⟩; obtain ⟨a4, c4, rfl⟩ := own_formT hown4; have hB4 := blkB2 hb4 hB3'; have hW4 := blkB2 hb4 hW3; have hBw4 := bt' hBw3' hb4; have hbx : Below w4.heap.size w4 (w4.alloc (.cells #[.slice a4 fs.length c4, .int .i64 max] 29)) := (Below.refl _ _).alloc (Nat.le_refl _) _; have hX4 := heap_alloc_last w4 (.cells #[.slice a4 fs.length c4, .int .i64 max] 29); have hF4 := (own_Fs hown4).below hbx; have hB4' := blkB2 hbx hB4; have hW4' := blkB2 hbx hW4; have hBw4' := bt' hBw4 hbx; have HA4 := HA3.below (bt' hb4 hbx)) | (go_at_call 22; refine (him _ a4 c4 hF4).mono ?_; clear him; rintro e w5 ⟨rfl, hb5⟩; have hB5 := blkB2 hb5 hB4'; have hW5 := blkB2 hb5 hW4'; have hX5 := blkB2 hb5 hX4; have hBw5 := bt' hBw4' hb5; have hbg : Below w5.heap.size w5 (w5.alloc (.cells #[.string x.n, .string x.v, .bool x.q] 37)) := (Below.refl _ _).alloc (Nat.le_refl _) _; obtain ⟨m0, m1, m2⟩ := row3c (heap_alloc_last w5 (.cells #[.string x.n, .string x.v, .bool x.q] 37)); obtain ⟨m3, m4, m5⟩ := row3c (blkB2 hbg hW5); have hWl := (Array.getElem?_eq_some_iff.1 hW5).1) | (go_at_call 23; refine (heq _).mono ?_; clear heq; rintro e V ⟨rfl, hb6⟩))
  have hVb := bt' (bt' hb5 hbg) hb6
  have hFV : Hid (Fs V a4 fs.length c4 fs) := hF4.below hVb
  have HAV : Hid (FsA V a fs.length cap fs) := HA4.below hVb
  have hBV := bt' hBw4' hVb
  obtain ⟨p0, p1⟩ := row2c (blkB2 hVb hX4)
  obtain ⟨p2, p3⟩ := row2c (blkB2 hVb hB4')
  have hmx : Try.prog.follows .mixedOrders = true := by kernel_rfl
  have hkeepV : ∀ w1 w2 : World, Below w1.heap.size w1 w2 → (w1.cell? ⟨w4.heap.size, 0, none⟩ = some (.slice a4 fs.length c4) ∧ w1.cell? ⟨w4.heap.size, 1, none⟩ = some (.int .i64 max) ∧ w1.cell? ⟨w.heap.size, 0, none⟩ = some (.slice a fs.length cap) ∧ w1.cell? ⟨w.heap.size, 1, none⟩ = some (.int .i64 max) ∧ Below V.heap.size V w1) → (w2.cell? ⟨w4.heap.size, 0, none⟩ = some (.slice a4 fs.length c4) ∧ w2.cell? ⟨w4.heap.size, 1, none⟩ = some (.int .i64 max) ∧ w2.cell? ⟨w.heap.size, 0, none⟩ = some (.slice a fs.length cap) ∧ w2.cell? ⟨w.heap.size, 1, none⟩ = some (.int .i64 max) ∧ Below V.heap.size V w2) := by
    rintro w1 w2 hb ⟨h0, h1, h2, h3, hB⟩
    exact ⟨keepc hb h0, keepc hb h1, keepc hb h2, keepc hb h3, bt' hB hb⟩
  have hBelV : ∀ w' : World, (w'.cell? ⟨w4.heap.size, 0, none⟩ = some (.slice a4 fs.length c4) ∧ w'.cell? ⟨w4.heap.size, 1, none⟩ = some (.int .i64 max) ∧ w'.cell? ⟨w.heap.size, 0, none⟩ = some (.slice a fs.length cap) ∧ w'.cell? ⟨w.heap.size, 1, none⟩ = some (.int .i64 max) ∧ Below V.heap.size V w') → Below V.heap.size V w' := fun w' h => h.2.2.2.2
  have hV0 : V.cell? ⟨w4.heap.size, 0, none⟩ = some (.slice a4 fs.length c4) ∧ V.cell? ⟨w4.heap.size, 1, none⟩ = some (.int .i64 max) ∧ V.cell? ⟨w.heap.size, 0, none⟩ = some (.slice a fs.length cap) ∧ V.cell? ⟨w.heap.size, 1, none⟩ = some (.int .i64 max) ∧ Below V.heap.size V V := ⟨p0, p1, p2, p3, Below.refl _ _⟩
  clear p0 p1 p2 p3
  go_region_held3 (fun w' => w'.cell? ⟨w4.heap.size, 0, none⟩ = some (.slice a4 fs.length c4) ∧ w'.cell? ⟨w4.heap.size, 1, none⟩ = some (.int .i64 max) ∧ w'.cell? ⟨w.heap.size, 0, none⟩ = some (.slice a fs.length cap) ∧ w'.cell? ⟨w.heap.size, 1, none⟩ = some (.int .i64 max) ∧ Below V.heap.size V w') (first | assumption | exact hkeepV _ _ ((Below.refl _ _).drew) hV0 | exact hkeepV _ _ hbN (by assumption)) ((first | (go_at_call 10; refine (hto3 _ (HAV.out.below (hBelV _ (by assumption)))).mono ?_; clear hto3; rintro e wN ⟨vN, rfl, hownN, hbN⟩; obtain ⟨aN, cN, rfl⟩ := own_formT hownN; have hFN := own_Fs hownN; clear hownN) | (go_at_call 12; refine (eqTable_same fs a4 aN c4 cN max _ (hFV.out.below (hBelV _ (by assumption))) hFN hn).mono ?_; clear hFN; rintro e wN ⟨rfl, hbN⟩)))
  go_wp2
  go_ret
  exact ⟨rfl, bt' hBV (hBelV _ (by first | assumption | exact hkeepV _ _ hbN (by assumption)))⟩
end Go.Proofs.Ytafhpcgdlmkbeay
