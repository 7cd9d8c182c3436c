import Derived.Test.YtafhpcgdlmkbeayEM3
import Derived.Deep.DeepCutAuto
import Derived.Deep.RegionHeld3
namespace Go.Proofs.Ytafhpcgdlmkbeay
open Go.RowKit
set_option linter.unusedVariables false

theorem addV_16 (fs : List Fd) (max : Int) (f : Fd) : (addV fs max f).1.length ≤ 16 := by
  unfold addV
  split
  · rename_i h
    rw [Bool.and_eq_true] at h
    obtain ⟨_, h1, h2, _⟩ := tOk_parts h.1
    have h3 := fitL_sum max (⟨f.n, f.v, false⟩ :: fs) h1
    have h4 := fSum_four (fitL max (⟨f.n, f.v, false⟩ :: fs))
    show (fitL max (⟨f.n, f.v, false⟩ :: fs)).length ≤ 16
    omega
  · show 0 ≤ 16; omega

set_option maxRecDepth 100000 in
set_option maxHeartbeats 20000000 in
theorem fnExactTableAdd_walk (fs : List Fd) (a : Option Addr) (n cap : Nat) (max : Int) (f : Fd) (w : World) (hA : FsA w a n cap fs) (h1 : f.n.size ≤ maxLen) (h2 : f.v.size ≤ maxLen) :
    Calls Try.prog 4 #[.agg #[.slice a n cap, .int .i64 max], f.val] w fun e w' => e = .returned (.bool true) ∧ Below w.heap.size w w' := by
  obtain rfl : fs.length = n := hA.len
  have hb0 : Below w.heap.size w ((w.alloc (.cells #[.slice a fs.length cap, .int .i64 max] 24)).alloc (.cells #[.string f.n, .string f.v, .bool f.q] 34)) := ((Below.refl _ _).alloc (Nat.le_refl _) _).alloc (by simp) _
  have hB0 : Hid (((w.alloc (.cells #[.slice a fs.length cap, .int .i64 max] 24)).alloc (.cells #[.string f.n, .string f.v, .bool f.q] 34)).heap[w.heap.size]? = some (.cells #[.slice a fs.length cap, .int .i64 max] 24 (0, 0))) := blkT (heap_alloc_last w _) _
  have hF0 : Hid (((w.alloc (.cells #[.slice a fs.length cap, .int .i64 max] 24)).alloc (.cells #[.string f.n, .string f.v, .bool f.q] 34)).heap[w.heap.size + 1]? = some (.cells #[.string f.n, .string f.v, .bool f.q] 34 (0, 0))) := by
    have h := heap_alloc_last (w.alloc (.cells #[.slice a fs.length cap, .int .i64 max] 24)) (.cells #[.string f.n, .string f.v, .bool f.q] 34)
    rw [World.size_alloc] at h
    exact h
  have HA : Hid (FsA w a fs.length cap fs) := hA
  have hsz := szTable_any fs a fs.length cap max 1048576 _ (hA.below hb0) (by decide) (by decide)
  unfold Fd.val
  clear hA
  go_enter Try.func4, Try.ntmps4
  go_wp2_with fail
  refine hsz.mono ?_
  clear hsz
  rintro e w1 ⟨r, rfl, hr, hb1⟩
  rcases hr with rfl | ⟨r0, r1, r2, hbd⟩
  · go_wp2
    go_ret
    exact ⟨rfl, bt' hb0 hb1⟩
  have hn : fs.length ≤ 1048576 := by omega
  have hd : decide (r < 0) = false := by rw [decide_eq_false_iff_not]; omega
  have hB1 := blkB2 hb1 hB0.out
  have hF1 := blkB2 hb1 hF0.out
  have hBw1 := bt' hb0 hb1
  obtain ⟨i0, i1⟩ := row2c hB1
  obtain ⟨i2, i3, i4⟩ := row3c hF1
  have hszf := fun w => szField_any f r w h1 h2 r0 (by omega)
  unfold Fd.val at hszf
  by_cases hs : r < (f.n.size : Int) + f.v.size
  · rw [if_pos hs] at hszf
    clear hbd
    go_wp2_with (go_at_call 13; refine (hszf _).mono ?_; clear hszf; rintro e w2 ⟨rfl, hb2⟩)
    go_ret
    exact ⟨rfl, bt' hBw1 hb2⟩
  rw [if_neg hs] at hszf
  have hd2 : decide (r - (f.n.size : Int) - f.v.size < 0) = false := by rw [decide_eq_false_iff_not]; omega
  have hn2 : (0 : Int) ≤ r - (f.n.size : Int) - f.v.size := by omega
  have hto := fun (w' : World) (h : FsA w' a fs.length cap fs) => toTable_any fs a fs.length cap max w' h hn
  unfold TabAns at hto
  simp only at hto
  have htf := fun w => toField_any f w
  have hsp := fun (w' : World) (a' : Option Addr) (c' : Nat) (h : Fs w' a' fs.length c' fs) => specTableAdd fs f a' fs.length c' max w' h hbd ⟨by omega, by omega⟩ hn
  have him := fun (w' : World) (a' : Option Addr) (c' : Nat) (h : Fs w' a' fs.length c' fs) => implTableAdd fs f a' fs.length c' max w' h hbd ⟨by omega, by omega⟩ hn
  have hxl := addV_16 fs max f
  obtain ⟨⟨xs, mx⟩, hX⟩ : ∃ r, addV fs max f = r := ⟨_, rfl⟩
  rw [hX] at hsp him hxl
  unfold TabAns at hsp him
  unfold Fd.val at hsp him htf
  simp only at hsp him hxl
  have hxn : xs.length ≤ 1048576 := by omega
  clear hX hbd
  go_wp2_with (go_at_call 13; refine (hszf _).mono ?_; clear hszf; rintro e V ⟨rfl, hb2⟩)
  have HAV : Hid (FsA V a fs.length cap fs) := HA.out.below (bt' hBw1 hb2)
  have hBV := bt' hBw1 hb2
  obtain ⟨p0, p1⟩ := row2c (blkB2 hb2 hB1)
  obtain ⟨p2, p3, p4⟩ := row3c (blkB2 hb2 hF1)
  have hmx : Try.prog.follows .mixedOrders = true := by kernel_rfl
  have hBV0 := hBV
  clear hBV
  have HB : Hid (V.heap[w.heap.size]? = some (.cells #[.slice a fs.length cap, .int .i64 max] 24 (0, 0))) := blkB2 hb2 hB1
  have HR : Hid (V.heap[w.heap.size + 1]? = some (.cells #[.string f.n, .string f.v, .bool f.q] 34 (0, 0))) := blkB2 hb2 hF1
  clear i0 i1 i2 i3 i4 hB0 hF0 hB1 hF1 hb0 hb1 hBw1 hb2
  have hkeepV : ∀ w1 w2 : World, Below w1.heap.size w1 w2 → (w1.cell? ⟨w.heap.size, 0, none⟩ = some (.slice a fs.length cap) ∧ w1.cell? ⟨w.heap.size, 1, none⟩ = some (.int .i64 max) ∧ w1.cell? ⟨w.heap.size + 1, 0, none⟩ = some (.string f.n) ∧ w1.cell? ⟨w.heap.size + 1, 1, none⟩ = some (.string f.v) ∧ w1.cell? ⟨w.heap.size + 1, 2, none⟩ = some (.bool f.q) ∧ Below V.heap.size V w1) → (w2.cell? ⟨w.heap.size, 0, none⟩ = some (.slice a fs.length cap) ∧ w2.cell? ⟨w.heap.size, 1, none⟩ = some (.int .i64 max) ∧ w2.cell? ⟨w.heap.size + 1, 0, none⟩ = some (.string f.n) ∧ w2.cell? ⟨w.heap.size + 1, 1, none⟩ = some (.string f.v) ∧ w2.cell? ⟨w.heap.size + 1, 2, none⟩ = some (.bool f.q) ∧ Below V.heap.size V w2) := by
    rintro w1 w2 hb ⟨h0, h1, h2, h3, h4, hB⟩
    exact ⟨keepc hb h0, keepc hb h1, keepc hb h2, keepc hb h3, keepc hb h4, bt' hB hb⟩
  have hBelV : ∀ w' : World, (w'.cell? ⟨w.heap.size, 0, none⟩ = some (.slice a fs.length cap) ∧ w'.cell? ⟨w.heap.size, 1, none⟩ = some (.int .i64 max) ∧ w'.cell? ⟨w.heap.size + 1, 0, none⟩ = some (.string f.n) ∧ w'.cell? ⟨w.heap.size + 1, 1, none⟩ = some (.string f.v) ∧ w'.cell? ⟨w.heap.size + 1, 2, none⟩ = some (.bool f.q) ∧ Below V.heap.size V w') → Below V.heap.size V w' := fun w' h => h.2.2.2.2.2
  have hV0 : V.cell? ⟨w.heap.size, 0, none⟩ = some (.slice a fs.length cap) ∧ V.cell? ⟨w.heap.size, 1, none⟩ = some (.int .i64 max) ∧ V.cell? ⟨w.heap.size + 1, 0, none⟩ = some (.string f.n) ∧ V.cell? ⟨w.heap.size + 1, 1, none⟩ = some (.string f.v) ∧ V.cell? ⟨w.heap.size + 1, 2, none⟩ = some (.bool f.q) ∧ Below V.heap.size V V := ⟨p0, p1, p2, p3, p4, Below.refl _ _⟩
  have HAVV : Hid (FsA V a fs.length cap fs) := HAV.out
  clear p0 p1 p2 p3 p4
  have hOfV : ∀ w', Below V.heap.size V w' → (w'.cell? ⟨w.heap.size, 0, none⟩ = some (.slice a fs.length cap) ∧ w'.cell? ⟨w.heap.size, 1, none⟩ = some (.int .i64 max) ∧ w'.cell? ⟨w.heap.size + 1, 0, none⟩ = some (.string f.n) ∧ w'.cell? ⟨w.heap.size + 1, 1, none⟩ = some (.string f.v) ∧ w'.cell? ⟨w.heap.size + 1, 2, none⟩ = some (.bool f.q) ∧ Below V.heap.size V w') := fun w' hb => ⟨keepc hb hV0.1, keepc hb hV0.2.1, keepc hb hV0.2.2.1, keepc hb hV0.2.2.2.1, keepc hb hV0.2.2.2.2.1, hb⟩
  go_upto_region 8 with fail
  go_cut [6] from 23 to 27 (fun s wx => ∃ L aL cL, s = .pointer (some ⟨L, 0, none⟩) ∧ wx.heap[L]? = some (.cells #[.slice aL xs.length cL, .int .i64 mx] 29 (0, 0)) ∧ wx.ownsRow V.heap.size 37 3 (.slice aL xs.length cL) xs.length (cellsF xs) ∧ Below V.heap.size V wx)
  case first =>
    go_region_held3 (fun w' => w'.cell? ⟨w.heap.size, 0, none⟩ = some (.slice a fs.length cap) ∧ w'.cell? ⟨w.heap.size, 1, none⟩ = some (.int .i64 max) ∧ w'.cell? ⟨w.heap.size + 1, 0, none⟩ = some (.string f.n) ∧ w'.cell? ⟨w.heap.size + 1, 1, none⟩ = some (.string f.v) ∧ w'.cell? ⟨w.heap.size + 1, 2, none⟩ = some (.bool f.q) ∧ Below V.heap.size V w') ((first | assumption | exact hkeepV _ _ ((Below.refl _ _).drew) hV0 | exact hkeepV _ _ ((Below.refl _ _).alloc (Nat.le_refl _) _) (by assumption) | exact hkeepV _ _ hb3 (by assumption) | exact hkeepV _ _ hb2 (by assumption) | exact hkeepV _ _ hb1 (by assumption) | exact hOfV _ ((hE3.setCell (p := ⟨_, 0, none⟩) hLb _).setCell (p := ⟨_, 1, none⟩) hLb _) | exact hOfV _ (hE3.alloc hE3.size _))) ((first | (go_at_call 10; refine (hto _ (HAVV.out.below (hBelV _ (by assumption)))).mono ?_; rintro e w1 ⟨v1, rfl, hown1, hb1⟩; obtain ⟨a1, c1, rfl⟩ := own_formT hown1; have hF1 := own_Fs hown1; have hE1 := bt' (hBelV _ (by assumption)) hb1; clear hown1) | (go_at_call 15; refine (htf _).mono ?_; rintro e w2 ⟨rfl, hb2⟩; (first | have hF2 := hF1.below hb2 | have hF2 := (hF1.below ((Below.refl _ _).alloc (Nat.le_refl _) _)).below hb2); have hE2 := bt' (hBelV _ (by assumption)) hb2) | (go_at_call 14; (first | refine (hsp _ _ _ hF2).mono ?_ | refine (hsp _ _ _ (hF2.below ((Below.refl _ _).alloc (Nat.le_refl _) _))).mono ?_); rintro e w3 ⟨v3, rfl, hown3, hb3⟩; obtain ⟨aL, cL, rfl⟩ := own_formT hown3; have hE3 := bt' (hBelV _ (by assumption)) hb3; (first | (have hL3 : w3.heap[V.heap.size]? = some (.cells #[.slice none 0 0, .int .i64 0] 29 (0, 0)) := blkB2 hb3 (blkB2 hb2 (blkB2 hb1 (heap_alloc_last V.drew (.cells #[.slice none 0 0, .int .i64 0] 29)))); have hLb : V.heap.size ≤ V.heap.size := Nat.le_refl _; obtain ⟨l0, l1⟩ := row2c hL3; have q0 := frz 0 hL3; have q1 := frz 1 hL3) | (have hL3 : w3.heap[w1.heap.size]? = some (.cells #[.slice none 0 0, .int .i64 0] 29 (0, 0)) := blkB2 hb3 (blkB2 hb2 (heap_alloc_last w1 (.cells #[.slice none 0 0, .int .i64 0] 29))); have hLb := hE1.size; obtain ⟨l0, l1⟩ := row2c hL3; have q0 := frz 0 hL3; have q1 := frz 1 hL3) | (have hL3 : w3.heap[w2.heap.size]? = some (.cells #[.slice none 0 0, .int .i64 0] 29 (0, 0)) := blkB2 hb3 (heap_alloc_last w2 (.cells #[.slice none 0 0, .int .i64 0] 29)); have hLb := hE2.size; obtain ⟨l0, l1⟩ := row2c hL3; have q0 := frz 0 hL3; have q1 := frz 1 hL3) | skip))))
    all_goals
      first
        | (have hL4 : w3.heap[V.heap.size]? = some (.cells #[.slice none 0 0, .int .i64 0] 29 (0, 0)) := hL3
           have hne := not_rowT hL4 (by decide) hown3
           have hL6 := set2_heap (.slice aL xs.length cL) (.int .i64 mx) hL4
           have hO6 := own_setT (own_setT hown3 ⟨V.heap.size, 0, none⟩ (.slice aL xs.length cL) hne) ⟨V.heap.size, 1, none⟩ (.int .i64 mx) hne
           have hE6 := (hE3.setCell (p := ⟨V.heap.size, 0, none⟩) hLb (.slice aL xs.length cL)).setCell (p := ⟨V.heap.size, 1, none⟩) hLb (.int .i64 mx)
           go_wp2_with fail
           go_meet
           exact ⟨_, aL, cL, rfl, hL6, own_baseT hO6 (by first | exact hE2.size | (rw [World.size_alloc]; exact Nat.le_succ_of_le hE2.size)), hE6⟩)
        | (have hL4 : w3.heap[w1.heap.size]? = some (.cells #[.slice none 0 0, .int .i64 0] 29 (0, 0)) := hL3
           have hne := not_rowT hL4 (by decide) hown3
           have hL6 := set2_heap (.slice aL xs.length cL) (.int .i64 mx) hL4
           have hO6 := own_setT (own_setT hown3 ⟨w1.heap.size, 0, none⟩ (.slice aL xs.length cL) hne) ⟨w1.heap.size, 1, none⟩ (.int .i64 mx) hne
           have hE6 := (hE3.setCell (p := ⟨w1.heap.size, 0, none⟩) hLb (.slice aL xs.length cL)).setCell (p := ⟨w1.heap.size, 1, none⟩) hLb (.int .i64 mx)
           go_wp2_with fail
           go_meet
           exact ⟨_, aL, cL, rfl, hL6, own_baseT hO6 (by first | exact hE2.size | (rw [World.size_alloc]; exact Nat.le_succ_of_le hE2.size)), hE6⟩)
        | (have hL4 : w3.heap[w2.heap.size]? = some (.cells #[.slice none 0 0, .int .i64 0] 29 (0, 0)) := hL3
           have hne := not_rowT hL4 (by decide) hown3
           have hL6 := set2_heap (.slice aL xs.length cL) (.int .i64 mx) hL4
           have hO6 := own_setT (own_setT hown3 ⟨w2.heap.size, 0, none⟩ (.slice aL xs.length cL) hne) ⟨w2.heap.size, 1, none⟩ (.int .i64 mx) hne
           have hE6 := (hE3.setCell (p := ⟨w2.heap.size, 0, none⟩) hLb (.slice aL xs.length cL)).setCell (p := ⟨w2.heap.size, 1, none⟩) hLb (.int .i64 mx)
           go_wp2_with fail
           go_meet
           exact ⟨_, aL, cL, rfl, hL6, own_baseT hO6 (by first | exact hE2.size | (rw [World.size_alloc]; exact Nat.le_succ_of_le hE2.size)), hE6⟩)
        | (have hL6 := heap_alloc_last w3 (.cells #[.slice aL xs.length cL, .int .i64 mx] 29)
           have hO6 := hown3.alloc (.cells #[.slice aL xs.length cL, .int .i64 mx] 29)
           have hE6 := hE3.alloc hE3.size (.cells #[.slice aL xs.length cL, .int .i64 mx] 29)
           go_wp2_with fail
           go_meet
           exact ⟨_, aL, cL, rfl, hL6, own_baseT hO6 (by first | exact hE2.size | (rw [World.size_alloc]; exact Nat.le_succ_of_le hE2.size)), hE6⟩)
  case rest =>
  obtain ⟨LS, aS, cS, rfl, hSr, oS, hcS⟩ := hcut
  have hzV := hcS.size
  have hl3 : ∀ q, (Value.slice aS xs.length cS).ownBlock = some q → q < wc.heap.size := fun q e => (oS.lt q e).2
  have hBc := blkB2 hcS HB.out
  obtain ⟨i0, i1⟩ := row2c hBc
  have HAc := HAV.out.below hcS
  go_upto_region 10 with (go_at_call 10; refine (hto _ HAc).mono ?_; rintro e w4 ⟨v4, rfl, oX, hb4⟩; obtain ⟨a4, c4, rfl⟩ := own_formT oX)
  have hl4 : ∀ q, (Value.slice a4 fs.length c4).ownBlock = some q → q < w4.heap.size := fun q e => (oX.lt q e).2
  have hbx : Below w4.heap.size w4 (w4.alloc (.cells #[.slice a4 fs.length c4, .int .i64 max] 29)) := (Below.refl _ _).alloc (Nat.le_refl _) _
  have hz4 := hb4.size
  have hcU := bt' hcS (bt' hb4 hbx)
  refine wabs (fun U => U.heap[LS]? = some (.cells #[.slice aS xs.length cS, .int .i64 mx] 29 (0, 0)) ∧ U.heap[w4.heap.size]? = some (.cells #[.slice a4 fs.length c4, .int .i64 max] 29 (0, 0)) ∧ U.ownsRow V.heap.size 37 3 (.slice aS xs.length cS) xs.length (cellsF xs) ∧ U.ownsRow wc.heap.size 37 3 (.slice a4 fs.length c4) fs.length (cellsF fs) ∧ Below V.heap.size V U ∧ w4.heap.size ≤ U.heap.size) ⟨blkB2 hbx (blkB2 hb4 hSr), heap_alloc_last w4 _, own_belowT (own_belowT oS hb4) hbx, own_belowT oX hbx, hcU, hbx.size⟩ ?_
  clear hbx hcU hb4 oX oS hSr i0 i1 hBc HAc hcS
  rintro U ⟨hSU, hXU, oSU, oXU, hcU, hzU⟩
  obtain ⟨p0, p1⟩ := row2c (blkB2 hcU HB.out)
  obtain ⟨p2, p3, p4⟩ := row3c (blkB2 hcU HR.out)
  obtain ⟨p5, p6⟩ := row2c hXU
  have HFX : Hid (Fs U a4 fs.length c4 fs) := own_Fs oXU
  have hkeepU : ∀ w1 w2 : World, Below w1.heap.size w1 w2 → (w1.cell? ⟨w.heap.size, 0, none⟩ = some (.slice a fs.length cap) ∧ w1.cell? ⟨w.heap.size, 1, none⟩ = some (.int .i64 max) ∧ w1.cell? ⟨w.heap.size + 1, 0, none⟩ = some (.string f.n) ∧ w1.cell? ⟨w.heap.size + 1, 1, none⟩ = some (.string f.v) ∧ w1.cell? ⟨w.heap.size + 1, 2, none⟩ = some (.bool f.q) ∧ w1.cell? ⟨w4.heap.size, 0, none⟩ = some (.slice a4 fs.length c4) ∧ w1.cell? ⟨w4.heap.size, 1, none⟩ = some (.int .i64 max) ∧ Below U.heap.size U w1) → (w2.cell? ⟨w.heap.size, 0, none⟩ = some (.slice a fs.length cap) ∧ w2.cell? ⟨w.heap.size, 1, none⟩ = some (.int .i64 max) ∧ w2.cell? ⟨w.heap.size + 1, 0, none⟩ = some (.string f.n) ∧ w2.cell? ⟨w.heap.size + 1, 1, none⟩ = some (.string f.v) ∧ w2.cell? ⟨w.heap.size + 1, 2, none⟩ = some (.bool f.q) ∧ w2.cell? ⟨w4.heap.size, 0, none⟩ = some (.slice a4 fs.length c4) ∧ w2.cell? ⟨w4.heap.size, 1, none⟩ = some (.int .i64 max) ∧ Below U.heap.size U w2) := by
    rintro w1 w2 hb ⟨h0, h1, h2, h3, h4, h5, h6, hB⟩
    exact ⟨keepc hb h0, keepc hb h1, keepc hb h2, keepc hb h3, keepc hb h4, keepc hb h5, keepc hb h6, bt' hB hb⟩
  have hBelU : ∀ w' : World, (w'.cell? ⟨w.heap.size, 0, none⟩ = some (.slice a fs.length cap) ∧ w'.cell? ⟨w.heap.size, 1, none⟩ = some (.int .i64 max) ∧ w'.cell? ⟨w.heap.size + 1, 0, none⟩ = some (.string f.n) ∧ w'.cell? ⟨w.heap.size + 1, 1, none⟩ = some (.string f.v) ∧ w'.cell? ⟨w.heap.size + 1, 2, none⟩ = some (.bool f.q) ∧ w'.cell? ⟨w4.heap.size, 0, none⟩ = some (.slice a4 fs.length c4) ∧ w'.cell? ⟨w4.heap.size, 1, none⟩ = some (.int .i64 max) ∧ Below U.heap.size U w') → Below U.heap.size U w' := fun w' h => h.2.2.2.2.2.2.2
  have hU0 : U.cell? ⟨w.heap.size, 0, none⟩ = some (.slice a fs.length cap) ∧ U.cell? ⟨w.heap.size, 1, none⟩ = some (.int .i64 max) ∧ U.cell? ⟨w.heap.size + 1, 0, none⟩ = some (.string f.n) ∧ U.cell? ⟨w.heap.size + 1, 1, none⟩ = some (.string f.v) ∧ U.cell? ⟨w.heap.size + 1, 2, none⟩ = some (.bool f.q) ∧ U.cell? ⟨w4.heap.size, 0, none⟩ = some (.slice a4 fs.length c4) ∧ U.cell? ⟨w4.heap.size, 1, none⟩ = some (.int .i64 max) ∧ Below U.heap.size U U := ⟨p0, p1, p2, p3, p4, p5, p6, Below.refl _ _⟩
  clear p0 p1 p2 p3 p4 p5 p6
  have hOfU : ∀ w', Below U.heap.size U w' → (w'.cell? ⟨w.heap.size, 0, none⟩ = some (.slice a fs.length cap) ∧ w'.cell? ⟨w.heap.size, 1, none⟩ = some (.int .i64 max) ∧ w'.cell? ⟨w.heap.size + 1, 0, none⟩ = some (.string f.n) ∧ w'.cell? ⟨w.heap.size + 1, 1, none⟩ = some (.string f.v) ∧ w'.cell? ⟨w.heap.size + 1, 2, none⟩ = some (.bool f.q) ∧ w'.cell? ⟨w4.heap.size, 0, none⟩ = some (.slice a4 fs.length c4) ∧ w'.cell? ⟨w4.heap.size, 1, none⟩ = some (.int .i64 max) ∧ Below U.heap.size U w') := fun w' hb => ⟨keepc hb hU0.1, keepc hb hU0.2.1, keepc hb hU0.2.2.1, keepc hb hU0.2.2.2.1, keepc hb hU0.2.2.2.2.1, keepc hb hU0.2.2.2.2.2.1, keepc hb hU0.2.2.2.2.2.2.1, hb⟩
  go_cut [8] from 30 to 33 (fun s wx => ∃ L aL cL, s = .pointer (some ⟨L, 0, none⟩) ∧ wx.heap[L]? = some (.cells #[.slice aL xs.length cL, .int .i64 mx] 29 (0, 0)) ∧ wx.ownsRow U.heap.size 37 3 (.slice aL xs.length cL) xs.length (cellsF xs) ∧ Below U.heap.size U wx)
  case first =>
    go_region_held3 (fun w' => w'.cell? ⟨w.heap.size, 0, none⟩ = some (.slice a fs.length cap) ∧ w'.cell? ⟨w.heap.size, 1, none⟩ = some (.int .i64 max) ∧ w'.cell? ⟨w.heap.size + 1, 0, none⟩ = some (.string f.n) ∧ w'.cell? ⟨w.heap.size + 1, 1, none⟩ = some (.string f.v) ∧ w'.cell? ⟨w.heap.size + 1, 2, none⟩ = some (.bool f.q) ∧ w'.cell? ⟨w4.heap.size, 0, none⟩ = some (.slice a4 fs.length c4) ∧ w'.cell? ⟨w4.heap.size, 1, none⟩ = some (.int .i64 max) ∧ Below U.heap.size U w') ((first | assumption | exact hkeepU _ _ ((Below.refl _ _).drew) hU0 | exact hkeepU _ _ ((Below.refl _ _).alloc (Nat.le_refl _) _) (by assumption) | exact hkeepU _ _ hb3 (by assumption) | exact hkeepU _ _ hb2 (by assumption) | exact hkeepU _ _ hb1 (by assumption) | exact hOfU _ ((hE3.setCell (p := ⟨_, 0, none⟩) hLb _).setCell (p := ⟨_, 1, none⟩) hLb _) | exact hOfU _ (hE3.alloc hE3.size _))) ((first | (go_at_call 15; refine (htf _).mono ?_; rintro e w2 ⟨rfl, hb2⟩; have hE2 := bt' (hBelU _ (by assumption)) hb2) | (go_at_call 16; refine (him _ _ _ (HFX.out.below (hBelU _ (by assumption)))).mono ?_; rintro e w3 ⟨v3, rfl, hown3, hb3⟩; obtain ⟨aL, cL, rfl⟩ := own_formT hown3; have hE3 := bt' (hBelU _ (by assumption)) hb3; (first | (have hL3 : w3.heap[U.heap.size]? = some (.cells #[.slice none 0 0, .int .i64 0] 29 (0, 0)) := blkB2 hb3 (blkB2 hb2 (heap_alloc_last U.drew (.cells #[.slice none 0 0, .int .i64 0] 29))); have hLb : U.heap.size ≤ U.heap.size := Nat.le_refl _; obtain ⟨l0, l1⟩ := row2c hL3; have q0 := frz 0 hL3; have q1 := frz 1 hL3) | (have hL3 : w3.heap[w2.heap.size]? = some (.cells #[.slice none 0 0, .int .i64 0] 29 (0, 0)) := blkB2 hb3 (heap_alloc_last w2 (.cells #[.slice none 0 0, .int .i64 0] 29)); have hLb := hE2.size; obtain ⟨l0, l1⟩ := row2c hL3; have q0 := frz 0 hL3; have q1 := frz 1 hL3) | skip))))
    all_goals
      first
        | (have hL4 : w3.heap[U.heap.size]? = some (.cells #[.slice none 0 0, .int .i64 0] 29 (0, 0)) := hL3
           have hne := not_rowT hL4 (by decide) hown3
           have hL6 := set2_heap (.slice aL xs.length cL) (.int .i64 mx) hL4
           have hO6 := own_setT (own_setT hown3 ⟨U.heap.size, 0, none⟩ (.slice aL xs.length cL) hne) ⟨U.heap.size, 1, none⟩ (.int .i64 mx) hne
           have hE6 := (hE3.setCell (p := ⟨U.heap.size, 0, none⟩) hLb (.slice aL xs.length cL)).setCell (p := ⟨U.heap.size, 1, none⟩) hLb (.int .i64 mx)
           go_wp2_with fail
           go_meet
           exact ⟨_, aL, cL, rfl, hL6, own_baseT hO6 (by first | exact hE2.size | (rw [World.size_alloc]; exact Nat.le_succ_of_le hE2.size)), hE6⟩)
        | (have hL4 : w3.heap[w2.heap.size]? = some (.cells #[.slice none 0 0, .int .i64 0] 29 (0, 0)) := hL3
           have hne := not_rowT hL4 (by decide) hown3
           have hL6 := set2_heap (.slice aL xs.length cL) (.int .i64 mx) hL4
           have hO6 := own_setT (own_setT hown3 ⟨w2.heap.size, 0, none⟩ (.slice aL xs.length cL) hne) ⟨w2.heap.size, 1, none⟩ (.int .i64 mx) hne
           have hE6 := (hE3.setCell (p := ⟨w2.heap.size, 0, none⟩) hLb (.slice aL xs.length cL)).setCell (p := ⟨w2.heap.size, 1, none⟩) hLb (.int .i64 mx)
           go_wp2_with fail
           go_meet
           exact ⟨_, aL, cL, rfl, hL6, own_baseT hO6 (by first | exact hE2.size | (rw [World.size_alloc]; exact Nat.le_succ_of_le hE2.size)), hE6⟩)
        | (have hL6 := heap_alloc_last w3 (.cells #[.slice aL xs.length cL, .int .i64 mx] 29)
           have hO6 := hown3.alloc (.cells #[.slice aL xs.length cL, .int .i64 mx] 29)
           have hE6 := hE3.alloc hE3.size (.cells #[.slice aL xs.length cL, .int .i64 mx] 29)
           go_wp2_with fail
           go_meet
           exact ⟨_, aL, cL, rfl, hL6, own_baseT hO6 (by first | exact hE2.size | (rw [World.size_alloc]; exact Nat.le_succ_of_le hE2.size)), hE6⟩)
  case rest =>
  obtain ⟨LG, aG, cG, rfl, hG, oG, hcG⟩ := hcut
  have hS := blkB2 hcG hSU
  have hX := blkB2 hcG hXU
  have oS := own_belowT oSU hcG
  have oX := own_belowT oXU hcG
  have hBV := bt' hcU hcG
  have hzG := hcG.size
  clear hSU hXU oSU oXU hcU hcG hU0 HFX hkeepU hBelU hOfU
  obtain ⟨g0, g1⟩ := row2c hG
  obtain ⟨s0, s1⟩ := row2c hS
  go_wp2_with fail
  refine (eqTable_same xs aG aS cG cS mx _ (own_Fs oG) (own_Fs oS) hxn).mono ?_
  rintro e V1 ⟨rfl, hc1⟩
  have hS1 := blkB2 hc1 hS
  have hX1 := blkB2 hc1 hX
  have hG1 := blkB2 hc1 hG
  have oS1 := own_belowT oS hc1
  have oX1 := own_belowT oX hc1
  have oG1 := own_belowT oG hc1
  have hBV1 := bt' hBV hc1
  clear hS hX hG oS oX oG hBV hc1 g0 g1 s0 s1
  obtain ⟨p0, p1⟩ := row2c hX1
  obtain ⟨p2, p3⟩ := row2c (blkB2 hBV1 HB.out)
  have HAW : Hid (FsA V1 a fs.length cap fs) := HAV.out.below hBV1
  have hFV : Hid (Fs V1 a4 fs.length c4 fs) := own_Fs oX1
  have hto3 := hto
  have hkeepW : ∀ w1 w2 : World, Below w1.heap.size w1 w2 → (w1.cell? ⟨w4.heap.size, 0, none⟩ = some (.slice a4 fs.length c4) ∧ w1.cell? ⟨w4.heap.size, 1, none⟩ = some (.int .i64 max) ∧ w1.cell? ⟨w.heap.size, 0, none⟩ = some (.slice a fs.length cap) ∧ w1.cell? ⟨w.heap.size, 1, none⟩ = some (.int .i64 max) ∧ Below V1.heap.size V1 w1) → (w2.cell? ⟨w4.heap.size, 0, none⟩ = some (.slice a4 fs.length c4) ∧ w2.cell? ⟨w4.heap.size, 1, none⟩ = some (.int .i64 max) ∧ w2.cell? ⟨w.heap.size, 0, none⟩ = some (.slice a fs.length cap) ∧ w2.cell? ⟨w.heap.size, 1, none⟩ = some (.int .i64 max) ∧ Below V1.heap.size V1 w2) := by
    rintro w1 w2 hb ⟨h0, h1, h2, h3, hB⟩
    exact ⟨keepc hb h0, keepc hb h1, keepc hb h2, keepc hb h3, bt' hB hb⟩
  have hBelW : ∀ w' : World, (w'.cell? ⟨w4.heap.size, 0, none⟩ = some (.slice a4 fs.length c4) ∧ w'.cell? ⟨w4.heap.size, 1, none⟩ = some (.int .i64 max) ∧ w'.cell? ⟨w.heap.size, 0, none⟩ = some (.slice a fs.length cap) ∧ w'.cell? ⟨w.heap.size, 1, none⟩ = some (.int .i64 max) ∧ Below V1.heap.size V1 w') → Below V1.heap.size V1 w' := fun w' h => h.2.2.2.2
  have hW0 : V1.cell? ⟨w4.heap.size, 0, none⟩ = some (.slice a4 fs.length c4) ∧ V1.cell? ⟨w4.heap.size, 1, none⟩ = some (.int .i64 max) ∧ V1.cell? ⟨w.heap.size, 0, none⟩ = some (.slice a fs.length cap) ∧ V1.cell? ⟨w.heap.size, 1, none⟩ = some (.int .i64 max) ∧ Below V1.heap.size V1 V1 := ⟨p0, p1, p2, p3, Below.refl _ _⟩
  clear p0 p1 p2 p3
  go_wp2
  go_region_held3 (fun w' => w'.cell? ⟨w4.heap.size, 0, none⟩ = some (.slice a4 fs.length c4) ∧ w'.cell? ⟨w4.heap.size, 1, none⟩ = some (.int .i64 max) ∧ w'.cell? ⟨w.heap.size, 0, none⟩ = some (.slice a fs.length cap) ∧ w'.cell? ⟨w.heap.size, 1, none⟩ = some (.int .i64 max) ∧ Below V1.heap.size V1 w') (first | assumption | exact hkeepW _ _ ((Below.refl _ _).drew) hW0 | exact hkeepW _ _ hbN (by assumption)) ((first | (go_at_call 10; refine (hto3 _ (HAW.out.below (hBelW _ (by assumption)))).mono ?_; clear hto3; rintro e wN ⟨vN, rfl, hownN, hbN⟩; obtain ⟨aN, cN, rfl⟩ := own_formT hownN; have hFN := own_Fs hownN; clear hownN) | (go_at_call 12; refine (eqTable_same fs a4 aN c4 cN max _ (hFV.out.below (hBelW _ (by assumption))) hFN hn).mono ?_; clear hFN; rintro e wN ⟨rfl, hbN⟩)))
  have hW1 : wN.cell? ⟨w4.heap.size, 0, none⟩ = some (.slice a4 fs.length c4) ∧ wN.cell? ⟨w4.heap.size, 1, none⟩ = some (.int .i64 max) ∧ wN.cell? ⟨w.heap.size, 0, none⟩ = some (.slice a fs.length cap) ∧ wN.cell? ⟨w.heap.size, 1, none⟩ = some (.int .i64 max) ∧ Below V1.heap.size V1 wN := by first | assumption | exact hkeepW _ _ hbN (by assumption)
  have hcN := hBelW _ hW1
  have hS2 := blkB2 hcN hS1
  have hX2 := blkB2 hcN hX1
  have hG2 := blkB2 hcN hG1
  have oS2 := own_belowT oS1 hcN
  have oX2 := own_belowT oX1 hcN
  have oG2 := own_belowT oG1 hcN
  have hBV2 := bt' hBV1 hcN
  clear hS1 hX1 hG1 oS1 oX1 oG1 hBV1 hcN hW0 hW1 HAW hFV
  obtain ⟨x0, x1⟩ := row2c hX2
  go_wp2_with fail
  refine (markTable_any _ _ _ _ _ max _ oX2 (by omega)).mono ?_
  rintro e V3 ⟨rfl, oX3, hg3⟩
  have hS3 := row_aside hS2 (by decide) oX2 hg3
  have hG3 := row_aside hG2 (by decide) oX2 hg3
  have oS3 := own_aside1 oS2 oX2 (fun q e => by have := hl3 q e; omega) hg3
  have oG3 : V3.ownsRow U.heap.size 37 3 (.slice aG xs.length cG) xs.length (cellsF xs) := own_aside2 (base' := 0) (n' := 0) (e' := 0) (ys := []) oG2 (fun q e => by have := hl4 q e; omega) hg3
  have hBV3 : Below V.heap.size V V3 := hBV2.grown hg3 hBV2.size (fun q hq => by have := (oX2.lt q hq).1; omega)
  clear hS2 hX2 hG2 oS2 oX2 oG2 hBV2 hg3 x0 x1 oX3
  obtain ⟨g0, g1⟩ := row2c hG3
  obtain ⟨s0, s1⟩ := row2c hS3
  have hdk : decide (((1 + 3 * fs.length : Nat) : Int) < 0) = false := by rw [decide_eq_false_iff_not]; omega
  have hdk2 : ¬ ((1 + 3 * fs.length : Nat) : Int) < 0 := by omega
  obtain ⟨K1, hK1⟩ : ∃ K : Nat, 1 + 3 * fs.length = K := ⟨_, rfl⟩
  rw [hK1] at hdk hdk2 ⊢
  clear hK1
  go_wp2_with fail
  refine (eqTable_same xs aG aS cG cS mx _ (own_Fs oG3) (own_Fs oS3) hxn).mono ?_
  rintro e V4 ⟨rfl, hc4⟩
  have hS4 := blkB2 hc4 hS3
  have hG4 := blkB2 hc4 hG3
  have oS4 := own_belowT oS3 hc4
  have oG4 := own_belowT oG3 hc4
  have hBV4 := bt' hBV3 hc4
  clear hS3 hG3 oS3 oG3 hBV3 hc4 g0 g1 s0 s1
  obtain ⟨g0, g1⟩ := row2c hG4
  go_wp2_with fail
  refine (markTable_any _ _ _ _ _ mx _ oG4 (by omega)).mono ?_
  rintro e V5 ⟨rfl, oG5, hg5⟩
  have hS5 := row_aside hS4 (by decide) oG4 hg5
  have hG5 := row_aside hG4 (by decide) oG4 hg5
  have oS5 := own_aside1 oS4 oG4 (fun q e => by have := hl3 q e; omega) hg5
  have hBV5 : Below V.heap.size V V5 := hBV4.grown hg5 hBV4.size (fun q hq => by have := (oG4.lt q hq).1; omega)
  clear hS4 hG4 oS4 oG4 hBV4 hg5 g0 g1
  obtain ⟨g0, g1⟩ := row2c hG5
  have hh := fun (w' : World) (h : Fs w' aG xs.length cG (marks 1 xs.length)) => heldTable_any xs.length cG aG mx w' h (by omega)
  obtain ⟨K, hK⟩ : ∃ K : Nat, 1 + 3 * xs.length = K := ⟨_, rfl⟩
  rw [hK] at hh ⊢
  have hdK : decide ((K : Int) < 0) = false := by rw [decide_eq_false_iff_not]; omega
  have hdK2 : ¬ (K : Int) < 0 := by omega
  clear hK
  go_wp2_with fail
  refine (hh _ (own_Fs oG5)).mono ?_
  rintro e V6 ⟨rfl, hc6⟩
  have hS6 := blkB2 hc6 hS5
  have hG6 := blkB2 hc6 hG5
  have oS6 := own_belowT oS5 hc6
  have oG6 := own_belowT oG5 hc6
  have hBV6 := bt' hBV5 hc6
  clear hS5 hG5 oS5 oG5 hBV5 hc6 g0 g1
  obtain ⟨p0, p1⟩ := row2c (blkB2 hBV6 HB.out)
  obtain ⟨p2, p3, p4⟩ := row3c (blkB2 hBV6 HR.out)
  have HAY : Hid (FsA V6 a fs.length cap fs) := HAV.out.below hBV6
  have hkeepY : ∀ w1 w2 : World, Below w1.heap.size w1 w2 → (w1.cell? ⟨w.heap.size, 0, none⟩ = some (.slice a fs.length cap) ∧ w1.cell? ⟨w.heap.size, 1, none⟩ = some (.int .i64 max) ∧ w1.cell? ⟨w.heap.size + 1, 0, none⟩ = some (.string f.n) ∧ w1.cell? ⟨w.heap.size + 1, 1, none⟩ = some (.string f.v) ∧ w1.cell? ⟨w.heap.size + 1, 2, none⟩ = some (.bool f.q) ∧ Below V6.heap.size V6 w1) → (w2.cell? ⟨w.heap.size, 0, none⟩ = some (.slice a fs.length cap) ∧ w2.cell? ⟨w.heap.size, 1, none⟩ = some (.int .i64 max) ∧ w2.cell? ⟨w.heap.size + 1, 0, none⟩ = some (.string f.n) ∧ w2.cell? ⟨w.heap.size + 1, 1, none⟩ = some (.string f.v) ∧ w2.cell? ⟨w.heap.size + 1, 2, none⟩ = some (.bool f.q) ∧ Below V6.heap.size V6 w2) := by
    rintro w1 w2 hb ⟨h0, h1, h2, h3, h4, hB⟩
    exact ⟨keepc hb h0, keepc hb h1, keepc hb h2, keepc hb h3, keepc hb h4, bt' hB hb⟩
  have hBelY : ∀ w' : World, (w'.cell? ⟨w.heap.size, 0, none⟩ = some (.slice a fs.length cap) ∧ w'.cell? ⟨w.heap.size, 1, none⟩ = some (.int .i64 max) ∧ w'.cell? ⟨w.heap.size + 1, 0, none⟩ = some (.string f.n) ∧ w'.cell? ⟨w.heap.size + 1, 1, none⟩ = some (.string f.v) ∧ w'.cell? ⟨w.heap.size + 1, 2, none⟩ = some (.bool f.q) ∧ Below V6.heap.size V6 w') → Below V6.heap.size V6 w' := fun w' h => h.2.2.2.2.2
  have hY0 : V6.cell? ⟨w.heap.size, 0, none⟩ = some (.slice a fs.length cap) ∧ V6.cell? ⟨w.heap.size, 1, none⟩ = some (.int .i64 max) ∧ V6.cell? ⟨w.heap.size + 1, 0, none⟩ = some (.string f.n) ∧ V6.cell? ⟨w.heap.size + 1, 1, none⟩ = some (.string f.v) ∧ V6.cell? ⟨w.heap.size + 1, 2, none⟩ = some (.bool f.q) ∧ Below V6.heap.size V6 V6 := ⟨p0, p1, p2, p3, p4, Below.refl _ _⟩
  clear p0 p1 p2 p3 p4
  have hOfY : ∀ w', Below V6.heap.size V6 w' → (w'.cell? ⟨w.heap.size, 0, none⟩ = some (.slice a fs.length cap) ∧ w'.cell? ⟨w.heap.size, 1, none⟩ = some (.int .i64 max) ∧ w'.cell? ⟨w.heap.size + 1, 0, none⟩ = some (.string f.n) ∧ w'.cell? ⟨w.heap.size + 1, 1, none⟩ = some (.string f.v) ∧ w'.cell? ⟨w.heap.size + 1, 2, none⟩ = some (.bool f.q) ∧ Below V6.heap.size V6 w') := fun w' hb => ⟨keepc hb hY0.1, keepc hb hY0.2.1, keepc hb hY0.2.2.1, keepc hb hY0.2.2.2.1, keepc hb hY0.2.2.2.2.1, hb⟩
  go_upto_region 27 with fail
  go_cut [12] from 65 to 69 (fun s wx => ∃ L aL cL, s = .pointer (some ⟨L, 0, none⟩) ∧ wx.heap[L]? = some (.cells #[.slice aL xs.length cL, .int .i64 mx] 29 (0, 0)) ∧ wx.ownsRow V6.heap.size 37 3 (.slice aL xs.length cL) xs.length (cellsF xs) ∧ Below V6.heap.size V6 wx)
  case first =>
    go_region_held3 (fun w' => w'.cell? ⟨w.heap.size, 0, none⟩ = some (.slice a fs.length cap) ∧ w'.cell? ⟨w.heap.size, 1, none⟩ = some (.int .i64 max) ∧ w'.cell? ⟨w.heap.size + 1, 0, none⟩ = some (.string f.n) ∧ w'.cell? ⟨w.heap.size + 1, 1, none⟩ = some (.string f.v) ∧ w'.cell? ⟨w.heap.size + 1, 2, none⟩ = some (.bool f.q) ∧ Below V6.heap.size V6 w') ((first | assumption | exact hkeepY _ _ ((Below.refl _ _).drew) hY0 | exact hkeepY _ _ ((Below.refl _ _).alloc (Nat.le_refl _) _) (by assumption) | exact hkeepY _ _ hb3 (by assumption) | exact hkeepY _ _ hb2 (by assumption) | exact hkeepY _ _ hb1 (by assumption) | exact hOfY _ ((hE3.setCell (p := ⟨_, 0, none⟩) hLb _).setCell (p := ⟨_, 1, none⟩) hLb _) | exact hOfY _ (hE3.alloc hE3.size _))) ((first | (go_at_call 10; refine (hto _ (HAY.out.below (hBelY _ (by assumption)))).mono ?_; rintro e w1 ⟨v1, rfl, hown1, hb1⟩; obtain ⟨a1, c1, rfl⟩ := own_formT hown1; have hF1 := own_Fs hown1; have hE1 := bt' (hBelY _ (by assumption)) hb1; clear hown1) | (go_at_call 15; refine (htf _).mono ?_; rintro e w2 ⟨rfl, hb2⟩; (first | have hF2 := hF1.below hb2 | have hF2 := (hF1.below ((Below.refl _ _).alloc (Nat.le_refl _) _)).below hb2); have hE2 := bt' (hBelY _ (by assumption)) hb2) | (go_at_call 16; (first | refine (him _ _ _ hF2).mono ?_ | refine (him _ _ _ (hF2.below ((Below.refl _ _).alloc (Nat.le_refl _) _))).mono ?_); rintro e w3 ⟨v3, rfl, hown3, hb3⟩; obtain ⟨aL, cL, rfl⟩ := own_formT hown3; have hE3 := bt' (hBelY _ (by assumption)) hb3; (first | (have hL3 : w3.heap[V6.heap.size]? = some (.cells #[.slice none 0 0, .int .i64 0] 29 (0, 0)) := blkB2 hb3 (blkB2 hb2 (blkB2 hb1 (heap_alloc_last V6.drew (.cells #[.slice none 0 0, .int .i64 0] 29)))); have hLb : V6.heap.size ≤ V6.heap.size := Nat.le_refl _; obtain ⟨l0, l1⟩ := row2c hL3; have q0 := frz 0 hL3; have q1 := frz 1 hL3) | (have hL3 : w3.heap[w1.heap.size]? = some (.cells #[.slice none 0 0, .int .i64 0] 29 (0, 0)) := blkB2 hb3 (blkB2 hb2 (heap_alloc_last w1 (.cells #[.slice none 0 0, .int .i64 0] 29))); have hLb := hE1.size; obtain ⟨l0, l1⟩ := row2c hL3; have q0 := frz 0 hL3; have q1 := frz 1 hL3) | (have hL3 : w3.heap[w2.heap.size]? = some (.cells #[.slice none 0 0, .int .i64 0] 29 (0, 0)) := blkB2 hb3 (heap_alloc_last w2 (.cells #[.slice none 0 0, .int .i64 0] 29)); have hLb := hE2.size; obtain ⟨l0, l1⟩ := row2c hL3; have q0 := frz 0 hL3; have q1 := frz 1 hL3) | skip))))
    all_goals
      first
        | (have hL4 : w3.heap[V6.heap.size]? = some (.cells #[.slice none 0 0, .int .i64 0] 29 (0, 0)) := hL3
           have hne := not_rowT hL4 (by decide) hown3
           have hL6 := set2_heap (.slice aL xs.length cL) (.int .i64 mx) hL4
           have hO6 := own_setT (own_setT hown3 ⟨V6.heap.size, 0, none⟩ (.slice aL xs.length cL) hne) ⟨V6.heap.size, 1, none⟩ (.int .i64 mx) hne
           have hE6 := (hE3.setCell (p := ⟨V6.heap.size, 0, none⟩) hLb (.slice aL xs.length cL)).setCell (p := ⟨V6.heap.size, 1, none⟩) hLb (.int .i64 mx)
           go_wp2_with fail
           go_meet
           exact ⟨_, aL, cL, rfl, hL6, own_baseT hO6 (by first | exact hE2.size | (rw [World.size_alloc]; exact Nat.le_succ_of_le hE2.size)), hE6⟩)
        | (have hL4 : w3.heap[w1.heap.size]? = some (.cells #[.slice none 0 0, .int .i64 0] 29 (0, 0)) := hL3
           have hne := not_rowT hL4 (by decide) hown3
           have hL6 := set2_heap (.slice aL xs.length cL) (.int .i64 mx) hL4
           have hO6 := own_setT (own_setT hown3 ⟨w1.heap.size, 0, none⟩ (.slice aL xs.length cL) hne) ⟨w1.heap.size, 1, none⟩ (.int .i64 mx) hne
           have hE6 := (hE3.setCell (p := ⟨w1.heap.size, 0, none⟩) hLb (.slice aL xs.length cL)).setCell (p := ⟨w1.heap.size, 1, none⟩) hLb (.int .i64 mx)
           go_wp2_with fail
           go_meet
           exact ⟨_, aL, cL, rfl, hL6, own_baseT hO6 (by first | exact hE2.size | (rw [World.size_alloc]; exact Nat.le_succ_of_le hE2.size)), hE6⟩)
        | (have hL4 : w3.heap[w2.heap.size]? = some (.cells #[.slice none 0 0, .int .i64 0] 29 (0, 0)) := hL3
           have hne := not_rowT hL4 (by decide) hown3
           have hL6 := set2_heap (.slice aL xs.length cL) (.int .i64 mx) hL4
           have hO6 := own_setT (own_setT hown3 ⟨w2.heap.size, 0, none⟩ (.slice aL xs.length cL) hne) ⟨w2.heap.size, 1, none⟩ (.int .i64 mx) hne
           have hE6 := (hE3.setCell (p := ⟨w2.heap.size, 0, none⟩) hLb (.slice aL xs.length cL)).setCell (p := ⟨w2.heap.size, 1, none⟩) hLb (.int .i64 mx)
           go_wp2_with fail
           go_meet
           exact ⟨_, aL, cL, rfl, hL6, own_baseT hO6 (by first | exact hE2.size | (rw [World.size_alloc]; exact Nat.le_succ_of_le hE2.size)), hE6⟩)
        | (have hL6 := heap_alloc_last w3 (.cells #[.slice aL xs.length cL, .int .i64 mx] 29)
           have hO6 := hown3.alloc (.cells #[.slice aL xs.length cL, .int .i64 mx] 29)
           have hE6 := hE3.alloc hE3.size (.cells #[.slice aL xs.length cL, .int .i64 mx] 29)
           go_wp2_with fail
           go_meet
           exact ⟨_, aL, cL, rfl, hL6, own_baseT hO6 (by first | exact hE2.size | (rw [World.size_alloc]; exact Nat.le_succ_of_le hE2.size)), hE6⟩)
  case rest =>
  obtain ⟨LH, a8, c8, rfl, hH8, oH8, hc8⟩ := hcut
  have hS8 := blkB2 hc8 hS6
  have hG8 := blkB2 hc8 hG6
  have oS8 := own_belowT oS6 hc8
  have oG8 := own_belowT oG6 hc8
  have hBV8 := bt' hBV6 hc8
  obtain ⟨h0, h1⟩ := row2c hH8
  obtain ⟨s0, s1⟩ := row2c hS8
  clear hS6 hG6 oS6 oG6 hBV6 hc8
  go_wp2_with fail
  refine (eqTable_same xs a8 aS c8 cS mx _ (own_Fs oH8) (own_Fs oS8) hxn).mono ?_
  rintro e V9 ⟨rfl, hc9⟩
  have hG9 := blkB2 hc9 hG8
  have oG9 := own_belowT oG8 hc9
  have hBV9 := bt' hBV8 hc9
  obtain ⟨g0, g1⟩ := row2c hG9
  clear h0 h1 s0 s1 hH8 hS8 hG8 oS8 oG8 oH8 hBV8 hc9
  go_wp2_with fail
  refine (hh _ (own_Fs oG9)).mono ?_
  rintro e Va ⟨rfl, hca⟩
  go_wp2
  go_ret
  exact ⟨rfl, bt' hBV0 (bt' hBV9 hca)⟩
end Go.Proofs.Ytafhpcgdlmkbeay
