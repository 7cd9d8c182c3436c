import Derived.Test.YtafhpcgdlmkbeadTL2
import Derived.Test.YtafhpcgdlmkbeadTDraw3
import Derived.Test.YtafhpcgdlmkbeadTI4
import Derived.Deep.RegionHeld3
import Derived.Deep.RegionLaw
import Derived.Deep.QuietTactic
import Derived.BigQuiet
namespace Go.Proofs.Ytafhpcgdlmkbead
open Go.RowKit
set_option linter.unusedVariables false

set_option maxRecDepth 100000 in
set_option maxHeartbeats 2000000 in
theorem fnTableAdd_walk (a0 : Option Addr) (len0 cap0 : Nat) (z0 : List Int) (w : World) (w0 : Row w a0 len0 cap0 z0) :
    Calls Try.prog 8 #[.slice a0 len0 cap0] w fun e w' => e = .returned (.bool true) ∧ Below w.heap.size w w' := by
  by_cases c0 : (1048576 : Int) < len0
  · clear w0
    go_enter Try.func8, Try.ntmps8
    go_wp2
    go_ret
    exact ⟨rfl, Below.refl _ _⟩
  have R0 : Hid (Row w a0 len0 cap0 z0) := w0
  clear w0
  go_enter Try.func8, Try.ntmps8
  go_wp2_with fail
  refine (drawTableAdd _ _ _ _ _ R0.out).mono ?_
  rintro e wa ⟨fs, max, a', c', f, rfl, ⟨hl, hsm, m0, m1, hfs⟩, hfn, hfv, hba⟩
  have hbA : Below wa.heap.size wa ((wa.alloc (.cells #[.slice a' fs.length c', .int .i64 max] 35)).alloc (.cells #[.string f.n, .string f.v, .bool f.q] 29)) := ((Below.refl _ _).alloc (Nat.le_refl _) _).alloc (by simp) _
  have hTA : Hid (((wa.alloc (.cells #[.slice a' fs.length c', .int .i64 max] 35)).alloc (.cells #[.string f.n, .string f.v, .bool f.q] 29)).heap[wa.heap.size]? = some (.cells #[.slice a' fs.length c', .int .i64 max] 35 (0, 0))) := blkT (heap_alloc_last wa _) _
  have hFA : Hid (((wa.alloc (.cells #[.slice a' fs.length c', .int .i64 max] 35)).alloc (.cells #[.string f.n, .string f.v, .bool f.q] 29)).heap[wa.heap.size + 1]? = some (.cells #[.string f.n, .string f.v, .bool f.q] 29 (0, 0))) := by
    have h := heap_alloc_last (wa.alloc (.cells #[.slice a' fs.length c', .int .i64 max] 35)) (.cells #[.string f.n, .string f.v, .bool f.q] 29)
    rw [World.size_alloc] at h
    exact h
  have hBA := bt' hba hbA
  have HFS : Hid (Fs ((wa.alloc (.cells #[.slice a' fs.length c', .int .i64 max] 35)).alloc (.cells #[.string f.n, .string f.v, .bool f.q] 29)) a' fs.length c' fs) := hfs.below hbA
  have hoI := fun (w' : World) (h : Fs w' a' fs.length c' fs) => implTableAdd fs f a' fs.length c' max w' h hsm.bd ⟨by omega, by omega⟩ (by omega)
  have hoS := fun (w' : World) (h : Fs w' a' fs.length c' fs) => specTableAdd fs f a' fs.length c' max w' h hsm.bd ⟨by omega, by omega⟩ (by omega)
  have hoT := fun (w' : World) (h : Fs w' a' fs.length c' fs) => specTableOk fs a' fs.length c' max w' h hsm.bd (by omega)
  have hoF := fun (w' : World) => specFieldOk f w' (by omega) (by omega)
  have hxl := addV_len fs max f
  obtain ⟨⟨xs, mx⟩, hX⟩ : ∃ r, addV fs max f = r := ⟨_, rfl⟩
  rw [hX] at hoI hoS hxl
  have HX : Hid (addV fs max f = (xs, mx)) := hX
  unfold TabAns at hoI hoS
  simp only at hoI hoS hxl
  unfold Fd.val at hoI hoS hoF ⊢
  have HSM : Hid (fsSm fs) := hsm
  clear hX hsm hfs
  go_wp2_with (go_at_call 26; refine (hoI _ HFS.out).mono ?_; clear hoI; rintro e wb ⟨vx, rfl, hownX, hbb⟩; obtain ⟨ax, cx, rfl⟩ := own_formT hownX)
  have hTb := blkB hbb hTA.out
  have hFb := blkB hbb hFA.out
  have hBb := bt' hBA hbb
  have hXB : Below wb.heap.size wb (wb.alloc (.cells #[.slice ax xs.length cx, .int .i64 mx] 35)) := (Below.refl _ _).alloc (Nat.le_refl _) _
  refine wabs (fun W => W.heap[wa.heap.size]? = some (.cells #[.slice a' fs.length c', .int .i64 max] 35 (0, 0)) ∧ W.heap[wa.heap.size + 1]? = some (.cells #[.string f.n, .string f.v, .bool f.q] 29 (0, 0)) ∧ W.heap[wb.heap.size]? = some (.cells #[.slice ax xs.length cx, .int .i64 mx] 35 (0, 0)) ∧ Fs W a' fs.length c' fs ∧ Fs W ax xs.length cx xs ∧ Below w.heap.size w W) ⟨blkB hXB hTb, blkB hXB hFb, heap_alloc_last wb _, (HFS.out.below hbb).below hXB, (own_Fs hownX).below hXB, bt' hBb hXB⟩ ?_
  rintro W ⟨hTW, hFW, hXW, hFT, hFX, hBW⟩
  have HFT : Hid (Fs W a' fs.length c' fs) := hFT
  have HFX : Hid (Fs W ax xs.length cx xs) := hFX
  obtain ⟨i0, i1⟩ := row2c hTW
  obtain ⟨i2, i3, i4⟩ := row3c hFW
  obtain ⟨i5, i6⟩ := row2c hXW
  clear hTb hFb hBb hXB hbb hownX hFT hFX hTW hFW hXW hTA hFA hBA HFS hbA hba
  have hkeepW : ∀ w1 w2 : World, Below w1.heap.size w1 w2 → (w1.cell? ⟨wa.heap.size, 0, none⟩ = some (.slice a' fs.length c') ∧ w1.cell? ⟨wa.heap.size, 1, none⟩ = some (.int .i64 max) ∧ w1.cell? ⟨wa.heap.size + 1, 0, none⟩ = some (.string f.n) ∧ w1.cell? ⟨wa.heap.size + 1, 1, none⟩ = some (.string f.v) ∧ w1.cell? ⟨wa.heap.size + 1, 2, none⟩ = some (.bool f.q) ∧ w1.cell? ⟨wb.heap.size, 0, none⟩ = some (.slice ax xs.length cx) ∧ w1.cell? ⟨wb.heap.size, 1, none⟩ = some (.int .i64 mx) ∧ Below W.heap.size W w1) → (w2.cell? ⟨wa.heap.size, 0, none⟩ = some (.slice a' fs.length c') ∧ w2.cell? ⟨wa.heap.size, 1, none⟩ = some (.int .i64 max) ∧ w2.cell? ⟨wa.heap.size + 1, 0, none⟩ = some (.string f.n) ∧ w2.cell? ⟨wa.heap.size + 1, 1, none⟩ = some (.string f.v) ∧ w2.cell? ⟨wa.heap.size + 1, 2, none⟩ = some (.bool f.q) ∧ w2.cell? ⟨wb.heap.size, 0, none⟩ = some (.slice ax xs.length cx) ∧ w2.cell? ⟨wb.heap.size, 1, none⟩ = some (.int .i64 mx) ∧ Below W.heap.size W w2) := by
    rintro w1 w2 hb ⟨h0, h1, h2, h3, h4, h5, h6, hB⟩
    exact ⟨keepc hb h0, keepc hb h1, keepc hb h2, keepc hb h3, keepc hb h4, keepc hb h5, keepc hb h6, bt' hB hb⟩
  have hBelW : ∀ w' : World, (w'.cell? ⟨wa.heap.size, 0, none⟩ = some (.slice a' fs.length c') ∧ w'.cell? ⟨wa.heap.size, 1, none⟩ = some (.int .i64 max) ∧ w'.cell? ⟨wa.heap.size + 1, 0, none⟩ = some (.string f.n) ∧ w'.cell? ⟨wa.heap.size + 1, 1, none⟩ = some (.string f.v) ∧ w'.cell? ⟨wa.heap.size + 1, 2, none⟩ = some (.bool f.q) ∧ w'.cell? ⟨wb.heap.size, 0, none⟩ = some (.slice ax xs.length cx) ∧ w'.cell? ⟨wb.heap.size, 1, none⟩ = some (.int .i64 mx) ∧ Below W.heap.size W w') → Below W.heap.size W w' := fun w' h => h.2.2.2.2.2.2.2
  have hS0 : W.cell? ⟨wa.heap.size, 0, none⟩ = some (.slice a' fs.length c') ∧ W.cell? ⟨wa.heap.size, 1, none⟩ = some (.int .i64 max) ∧ W.cell? ⟨wa.heap.size + 1, 0, none⟩ = some (.string f.n) ∧ W.cell? ⟨wa.heap.size + 1, 1, none⟩ = some (.string f.v) ∧ W.cell? ⟨wa.heap.size + 1, 2, none⟩ = some (.bool f.q) ∧ W.cell? ⟨wb.heap.size, 0, none⟩ = some (.slice ax xs.length cx) ∧ W.cell? ⟨wb.heap.size, 1, none⟩ = some (.int .i64 mx) ∧ Below W.heap.size W W := ⟨i0, i1, i2, i3, i4, i5, i6, Below.refl _ _⟩
  clear i0 i1 i2 i3 i4 i5 i6
  have hmx : Try.prog.follows .mixedOrders = true := by kernel_rfl
  cases ht : tOk fs max with
  | false =>
    rw [ht] at hoT
    clear ht
    have hT0 := hkeepW _ _ ((Below.refl _ _).drew) hS0
    obtain ⟨k0_0, k0_1, k0_2, k0_3, k0_4, k0_5, k0_6, k0_B⟩ := id hT0
    go_region_law ((first | (go_simp; refine (hoS _ (HFT.out.below (hBelW _ hT0))).mono ?_; rintro e wN ⟨vN, rfl, hownN, hbN⟩; have hT1 := hkeepW _ _ hbN hT0; obtain ⟨k1_0, k1_1, k1_2, k1_3, k1_4, k1_5, k1_6, k1_B⟩ := id hT1; obtain ⟨aN, cN, rfl⟩ := own_formT hownN; have hFN := own_Fs hownN; clear hownN; clear hT0) | (go_simp; refine (lkTable_same xs ax aN cx cN mx _ (HFX.out.below (hBelW _ hT1)) hFN (by omega)).mono ?_; clear hFN; rintro e wN ⟨rfl, hbN⟩; have hT2 := hkeepW _ _ hbN hT1; obtain ⟨k2_0, k2_1, k2_2, k2_3, k2_4, k2_5, k2_6, k2_B⟩ := id hT2; clear hT1) | (go_simp; refine (hoT _ (HFT.out.below (hBelW _ hT2))).mono ?_; clear hoT; rintro e wN ⟨rfl, hbN⟩; have hT3 := hkeepW _ _ hbN hT2; obtain ⟨k3_0, k3_1, k3_2, k3_3, k3_4, k3_5, k3_6, k3_B⟩ := id hT3; clear hT2)))
    all_goals
      have hS1 := hT3
      clear hS0
      go_wp2
      go_region_held3 (fun w' => w'.cell? ⟨wa.heap.size, 0, none⟩ = some (.slice a' fs.length c') ∧ w'.cell? ⟨wa.heap.size, 1, none⟩ = some (.int .i64 max) ∧ w'.cell? ⟨wa.heap.size + 1, 0, none⟩ = some (.string f.n) ∧ w'.cell? ⟨wa.heap.size + 1, 1, none⟩ = some (.string f.v) ∧ w'.cell? ⟨wa.heap.size + 1, 2, none⟩ = some (.bool f.q) ∧ w'.cell? ⟨wb.heap.size, 0, none⟩ = some (.slice ax xs.length cx) ∧ w'.cell? ⟨wb.heap.size, 1, none⟩ = some (.int .i64 mx) ∧ Below W.heap.size W w') (first | assumption | exact hkeepW _ _ ((Below.refl _ _).drew) hS1 | exact hkeepW _ _ hbN (by assumption)) ((first | (go_at_call 28; refine (hoS _ (HFT.out.below (hBelW _ (by assumption)))).mono ?_; rintro e wN ⟨vN, rfl, hownN, hbN⟩; obtain ⟨aN, cN, rfl⟩ := own_formT hownN; have hFN := own_Fs hownN; clear hownN) | (go_at_call 27; refine (lkTable_same xs ax aN cx cN mx _ (HFX.out.below (hBelW _ (by assumption))) hFN (by omega)).mono ?_; clear hFN; rintro e wN ⟨rfl, hbN⟩)))
      go_wp2
      go_ret
      exact ⟨rfl, bt' hBW (hBelW _ (by first | assumption | exact hkeepW _ _ hbN (by assumption)))⟩
  | true =>
    rw [ht] at hoT
    cases hfk : fOk f with
    | false =>
      rw [hfk] at hoF
      clear ht hfk
      go_region_held3 (fun w' => w'.cell? ⟨wa.heap.size, 0, none⟩ = some (.slice a' fs.length c') ∧ w'.cell? ⟨wa.heap.size, 1, none⟩ = some (.int .i64 max) ∧ w'.cell? ⟨wa.heap.size + 1, 0, none⟩ = some (.string f.n) ∧ w'.cell? ⟨wa.heap.size + 1, 1, none⟩ = some (.string f.v) ∧ w'.cell? ⟨wa.heap.size + 1, 2, none⟩ = some (.bool f.q) ∧ w'.cell? ⟨wb.heap.size, 0, none⟩ = some (.slice ax xs.length cx) ∧ w'.cell? ⟨wb.heap.size, 1, none⟩ = some (.int .i64 mx) ∧ Below W.heap.size W w') (first | assumption | exact hkeepW _ _ ((Below.refl _ _).drew) hS0 | exact hkeepW _ _ hbN (by assumption)) ((first | (go_at_call 28; refine (hoS _ (HFT.out.below (hBelW _ (by assumption)))).mono ?_; rintro e wN ⟨vN, rfl, hownN, hbN⟩; obtain ⟨aN, cN, rfl⟩ := own_formT hownN; have hFN := own_Fs hownN; clear hownN) | (go_at_call 27; refine (lkTable_same xs ax aN cx cN mx _ (HFX.out.below (hBelW _ (by assumption))) hFN (by omega)).mono ?_; clear hFN; rintro e wN ⟨rfl, hbN⟩) | (go_at_call 21; refine (hoT _ (HFT.out.below (hBelW _ (by assumption)))).mono ?_; clear hoT; rintro e wN ⟨rfl, hbN⟩) | (go_at_call 16; refine (hoF _).mono ?_; clear hoF; rintro e wN ⟨rfl, hbN⟩)))
      have hS1 : wN.cell? ⟨wa.heap.size, 0, none⟩ = some (.slice a' fs.length c') ∧ wN.cell? ⟨wa.heap.size, 1, none⟩ = some (.int .i64 max) ∧ wN.cell? ⟨wa.heap.size + 1, 0, none⟩ = some (.string f.n) ∧ wN.cell? ⟨wa.heap.size + 1, 1, none⟩ = some (.string f.v) ∧ wN.cell? ⟨wa.heap.size + 1, 2, none⟩ = some (.bool f.q) ∧ wN.cell? ⟨wb.heap.size, 0, none⟩ = some (.slice ax xs.length cx) ∧ wN.cell? ⟨wb.heap.size, 1, none⟩ = some (.int .i64 mx) ∧ Below W.heap.size W wN := by first | assumption | exact hkeepW _ _ hbN (by assumption)
      clear hS0
      go_wp2
      go_region_held3 (fun w' => w'.cell? ⟨wa.heap.size, 0, none⟩ = some (.slice a' fs.length c') ∧ w'.cell? ⟨wa.heap.size, 1, none⟩ = some (.int .i64 max) ∧ w'.cell? ⟨wa.heap.size + 1, 0, none⟩ = some (.string f.n) ∧ w'.cell? ⟨wa.heap.size + 1, 1, none⟩ = some (.string f.v) ∧ w'.cell? ⟨wa.heap.size + 1, 2, none⟩ = some (.bool f.q) ∧ w'.cell? ⟨wb.heap.size, 0, none⟩ = some (.slice ax xs.length cx) ∧ w'.cell? ⟨wb.heap.size, 1, none⟩ = some (.int .i64 mx) ∧ Below W.heap.size W w') (first | assumption | exact hkeepW _ _ ((Below.refl _ _).drew) hS1 | exact hkeepW _ _ hbN (by assumption)) ((first | (go_at_call 28; refine (hoS _ (HFT.out.below (hBelW _ (by assumption)))).mono ?_; rintro e wN ⟨vN, rfl, hownN, hbN⟩; obtain ⟨aN, cN, rfl⟩ := own_formT hownN; have hFN := own_Fs hownN; clear hownN) | (go_at_call 27; refine (lkTable_same xs ax aN cx cN mx _ (HFX.out.below (hBelW _ (by assumption))) hFN (by omega)).mono ?_; clear hFN; rintro e wN ⟨rfl, hbN⟩)))
      go_wp2
      go_ret
      exact ⟨rfl, bt' hBW (hBelW _ (by first | assumption | exact hkeepW _ _ hbN (by assumption)))⟩
    | true =>
      rw [hfk] at hoF
      have HT : Hid (tOk fs max = true) := ht
      have HK : Hid (fOk f = true) := hfk
      clear ht hfk
      go_region_held3 (fun w' => w'.cell? ⟨wa.heap.size, 0, none⟩ = some (.slice a' fs.length c') ∧ w'.cell? ⟨wa.heap.size, 1, none⟩ = some (.int .i64 max) ∧ w'.cell? ⟨wa.heap.size + 1, 0, none⟩ = some (.string f.n) ∧ w'.cell? ⟨wa.heap.size + 1, 1, none⟩ = some (.string f.v) ∧ w'.cell? ⟨wa.heap.size + 1, 2, none⟩ = some (.bool f.q) ∧ w'.cell? ⟨wb.heap.size, 0, none⟩ = some (.slice ax xs.length cx) ∧ w'.cell? ⟨wb.heap.size, 1, none⟩ = some (.int .i64 mx) ∧ Below W.heap.size W w') (first | assumption | exact hkeepW _ _ ((Below.refl _ _).drew) hS0 | exact hkeepW _ _ hbN (by assumption)) ((first | (go_at_call 28; refine (hoS _ (HFT.out.below (hBelW _ (by assumption)))).mono ?_; rintro e wN ⟨vN, rfl, hownN, hbN⟩; obtain ⟨aN, cN, rfl⟩ := own_formT hownN; have hFN := own_Fs hownN; clear hownN) | (go_at_call 27; refine (lkTable_same xs ax aN cx cN mx _ (HFX.out.below (hBelW _ (by assumption))) hFN (by omega)).mono ?_; clear hFN; rintro e wN ⟨rfl, hbN⟩) | (go_at_call 21; refine (hoT _ (HFT.out.below (hBelW _ (by assumption)))).mono ?_; clear hoT; rintro e wN ⟨rfl, hbN⟩) | (go_at_call 16; refine (hoF _).mono ?_; clear hoF; rintro e wN ⟨rfl, hbN⟩)))
      have hS1 : wN.cell? ⟨wa.heap.size, 0, none⟩ = some (.slice a' fs.length c') ∧ wN.cell? ⟨wa.heap.size, 1, none⟩ = some (.int .i64 max) ∧ wN.cell? ⟨wa.heap.size + 1, 0, none⟩ = some (.string f.n) ∧ wN.cell? ⟨wa.heap.size + 1, 1, none⟩ = some (.string f.v) ∧ wN.cell? ⟨wa.heap.size + 1, 2, none⟩ = some (.bool f.q) ∧ wN.cell? ⟨wb.heap.size, 0, none⟩ = some (.slice ax xs.length cx) ∧ wN.cell? ⟨wb.heap.size, 1, none⟩ = some (.int .i64 mx) ∧ Below W.heap.size W wN := by first | assumption | exact hkeepW _ _ hbN (by assumption)
      clear hS0
      go_wp2
      have hV := HX.out
      rw [addV_ok HT.out HK.out] at hV
      injection hV with hV1 hV2
      subst hV2
      have HV1 : Hid (fitL max (⟨f.n, f.v, false⟩ :: fs) = xs) := hV1
      clear hV1 hoS HX
      have hone := fun w => lkOne_any f w (by omega) (by omega)
      unfold Fd.val at hone
      have hx0 := fLen_pos f
      have hx9 : fLen f ≤ 2097156 := by unfold fLen; omega
      have HLF : Hid (∀ x, fLen f = x → fLen f = x) := fun _ h => h
      obtain ⟨x, hx⟩ : ∃ x, fLen f = x := ⟨_, rfl⟩
      rw [hx] at hone hx0 hx9
      have HXE : Hid (fLen f = x) := hx
      clear hx HLF
      go_region_held3 (fun w' => w'.cell? ⟨wa.heap.size, 0, none⟩ = some (.slice a' fs.length c') ∧ w'.cell? ⟨wa.heap.size, 1, none⟩ = some (.int .i64 max) ∧ w'.cell? ⟨wa.heap.size + 1, 0, none⟩ = some (.string f.n) ∧ w'.cell? ⟨wa.heap.size + 1, 1, none⟩ = some (.string f.v) ∧ w'.cell? ⟨wa.heap.size + 1, 2, none⟩ = some (.bool f.q) ∧ w'.cell? ⟨wb.heap.size, 0, none⟩ = some (.slice ax xs.length cx) ∧ w'.cell? ⟨wb.heap.size, 1, none⟩ = some (.int .i64 max) ∧ Below W.heap.size W w') (first | assumption | exact hkeepW _ _ ((Below.refl _ _).drew) hS1 | exact hkeepW _ _ hbN (by assumption)) ((first | (go_at_call 22; refine (hone _).mono ?_; clear hone; rintro e wN ⟨rfl, hbN⟩)))
      have hS2 : wN.cell? ⟨wa.heap.size, 0, none⟩ = some (.slice a' fs.length c') ∧ wN.cell? ⟨wa.heap.size, 1, none⟩ = some (.int .i64 max) ∧ wN.cell? ⟨wa.heap.size + 1, 0, none⟩ = some (.string f.n) ∧ wN.cell? ⟨wa.heap.size + 1, 1, none⟩ = some (.string f.v) ∧ wN.cell? ⟨wa.heap.size + 1, 2, none⟩ = some (.bool f.q) ∧ wN.cell? ⟨wb.heap.size, 0, none⟩ = some (.slice ax xs.length cx) ∧ wN.cell? ⟨wb.heap.size, 1, none⟩ = some (.int .i64 max) ∧ Below W.heap.size W wN := by first | assumption | exact hkeepW _ _ hbN (by assumption)
      clear hS1
      by_cases hgt : max < x
      · have hnil : xs = [] := by rw [← HV1.out]; exact add_none (by rw [HXE.out]; exact hgt)
        have hz : ((xs.length : Int) == 0) = true := by rw [hnil]; rfl
        obtain ⟨q0, q1, q2, q3, q4, q5, q6, qB⟩ := id hS2
        clear hnil
        go_wp2
        go_ret
        exact ⟨rfl, bt' hBW (hBelW _ hS2)⟩
      · have hle : x ≤ max := by omega
        obtain ⟨R, hR1, hR2, hR3, hR4, hR5⟩ := add_fits HT.out HK.out (by rw [HXE.out]; exact hle)
        have hxsR : xs = ⟨f.n, f.v, false⟩ :: R := by rw [← HV1.out, hR1]
        have hxj : xs.length = R.length + 1 := by rw [hxsR]; rfl
        obtain ⟨j, hj⟩ : ∃ j, R.length = j := ⟨_, rfl⟩
        rw [hj] at hR3 hxj
        have HXS : Hid (xs = ⟨f.n, f.v, false⟩ :: R) := hxsR
        have hdrop : xs.drop 1 = fs.take j := by rw [hxsR, ← hj, ← hR2]; rfl
        have HTX : Hid (tOk xs max = true) := by show tOk xs max = true; rw [hxsR]; exact hR4
        have HGR : Hid (∀ (hj : j < fs.length), max < fSum xs + fLen fs[j]) := by
          show ∀ (hj : j < fs.length), max < fSum xs + fLen fs[j]
          rw [hxsR]
          intro h
          subst hj
          exact hR5 h
        have hsmx : fsSm xs := by
          rw [hxsR, hR2]
          intro y hy
          rcases List.mem_cons.1 hy with rfl | hy
          · exact ⟨hfn, hfv⟩
          · exact HSM.out y (List.mem_of_mem_take hy)
        have HSX : Hid (fsSm xs) := hsmx
        have HDR : Hid (xs.drop 1 = fs.take j) := hdrop
        have HXJ : Hid (xs.length = j + 1) := hxj
        have hj1 : (xs.length : Int) - 1 = (j : Int) := by omega
        have hj2 : IntKind.i64.wrap ((xs.length : Int) - 1) = (j : Int) := by rw [hj1]; exact wraps_i64_40 _ (by omega) (by omega)
        have hj3 : IntKind.i64.wrap (j : Int) = (j : Int) := wraps_i64_40 _ (by omega) (by omega)
        have hn1 : decide ((xs.length : Int) < 1) = false := by simp; omega
        have hn2 : 1 ≤ (xs.length : Int) := by omega
        have hn3 : (0 : Int) < (xs.length : Int) := by omega
        have hne0 : 0 < xs.length := by omega
        clear hxj hxsR hdrop hsmx hR1 hR2 hR4 hR5 hj HV1 HT HK hgt
        obtain ⟨gx, ox, rfl⟩ := HFX.out.some' (by have := HXJ.out; omega)
        obtain ⟨q0, q1, q2, q3, q4, q5, q6, qB⟩ := id hS2
        go_wp2
        have hbK : Below wN.heap.size wN (wN.alloc (.cells #[.string f.n, .string f.v, .bool false] 29)) := (Below.refl _ _).alloc (Nat.le_refl _) _
        have hS3 := hkeepW _ _ hbK hS2
        obtain ⟨K, hK⟩ : ∃ K, wN.heap.size = K := ⟨_, rfl⟩
        have hKR : (wN.alloc (.cells #[.string f.n, .string f.v, .bool false] 29)).heap[K]? = some (.cells #[.string f.n, .string f.v, .bool false] 29 (0, 0)) := by rw [← hK]; exact heap_alloc_last wN _
        rw [hK]
        refine wabs (fun V => V.heap[K]? = some (.cells #[.string f.n, .string f.v, .bool false] 29 (0, 0)) ∧ V.cell? ⟨wa.heap.size, 0, none⟩ = some (.slice a' fs.length c') ∧ V.cell? ⟨wa.heap.size, 1, none⟩ = some (.int .i64 max) ∧ V.cell? ⟨wa.heap.size + 1, 0, none⟩ = some (.string f.n) ∧ V.cell? ⟨wa.heap.size + 1, 1, none⟩ = some (.string f.v) ∧ V.cell? ⟨wa.heap.size + 1, 2, none⟩ = some (.bool f.q) ∧ V.cell? ⟨wb.heap.size, 0, none⟩ = some (.slice (some ⟨gx, ox, none⟩) xs.length cx) ∧ V.cell? ⟨wb.heap.size, 1, none⟩ = some (.int .i64 max) ∧ Below W.heap.size W V) ⟨hKR, hS3⟩ ?_
        rintro V ⟨hKV, hSV⟩
        have hBV := hBelW _ hSV
        obtain ⟨q0, q1, q2, q3, q4, q5, q6, qB⟩ := id hSV
        obtain ⟨k0, k1, k2⟩ := row3c hKV
        have hFXV := HFX.out.below hBV
        have hFTV := HFT.out.below hBV
        obtain ⟨d0, d1, d2⟩ := hFXV.at 0 (by have := HXJ.out; omega)
        have hx00 : xs[0]'(by have := HXJ.out; omega) = ⟨f.n, f.v, false⟩ := by simp only [HXS.out]; rfl
        rw [hx00] at d0 d1 d2
        simp only [Nat.zero_mul, Nat.add_zero] at d0 d1 d2
        obtain ⟨g2, o2, hsl1, hfd⟩ := hFXV.from 1 1 rfl (by have := HXJ.out; omega)
        have hsl2 := fun W => hFTV.upto j (j : Int) rfl hR3 W
        have HFD : Hid _ := hfd
        have HFV : Hid _ := hFTV
        have HFXV : Hid _ := hFXV
        have hlf := fun (w' : World) (hb : Below V.heap.size V w') => lkFields_any (xs.drop 1) (fs.take j) (some ⟨g2, o2, none⟩) a' (xs.length - 1) (cx - 1) j c' w' (HFD.out _ (HFXV.out.below hb)) ((HFV.out.below hb).take j hR3) (by omega) (by omega)
        rw [HDR.out, eqFs_self] at hlf
        have htx := fun (w' : World) (hb : Below V.heap.size V w') => implTableOk xs (some ⟨gx, ox, none⟩) xs.length cx max w' (HFXV.out.below hb) HSX.out.bd (by omega)
        rw [HTX.out] at htx
        have htz := fun (w' : World) (hb : Below V.heap.size V w') => implTableSize xs (some ⟨gx, ox, none⟩) xs.length cx max w' (HFXV.out.below hb) HSX.out.bd (by omega)
        rw [HTX.out, if_pos rfl] at htz
        clear hfd hFTV hFXV hx00 hKV hSV hS2 hS3 hKR hbK hK
        have hkeepV : ∀ w1 w2 : World, Below w1.heap.size w1 w2 → (w1.cell? ⟨wa.heap.size, 0, none⟩ = some (.slice a' fs.length c') ∧ w1.cell? ⟨wa.heap.size, 1, none⟩ = some (.int .i64 max) ∧ w1.cell? ⟨wb.heap.size, 0, none⟩ = some (.slice (some ⟨gx, ox, none⟩) xs.length cx) ∧ w1.cell? ⟨wb.heap.size, 1, none⟩ = some (.int .i64 max) ∧ w1.cell? ⟨K, 0, none⟩ = some (.string f.n) ∧ w1.cell? ⟨K, 1, none⟩ = some (.string f.v) ∧ w1.cell? ⟨K, 2, none⟩ = some (.bool false) ∧ w1.cell? ⟨gx, ox, none⟩ = some (.string f.n) ∧ w1.cell? ⟨gx, ox + 1, none⟩ = some (.string f.v) ∧ w1.cell? ⟨gx, ox + 2, none⟩ = some (.bool false) ∧ Below V.heap.size V w1) → (w2.cell? ⟨wa.heap.size, 0, none⟩ = some (.slice a' fs.length c') ∧ w2.cell? ⟨wa.heap.size, 1, none⟩ = some (.int .i64 max) ∧ w2.cell? ⟨wb.heap.size, 0, none⟩ = some (.slice (some ⟨gx, ox, none⟩) xs.length cx) ∧ w2.cell? ⟨wb.heap.size, 1, none⟩ = some (.int .i64 max) ∧ w2.cell? ⟨K, 0, none⟩ = some (.string f.n) ∧ w2.cell? ⟨K, 1, none⟩ = some (.string f.v) ∧ w2.cell? ⟨K, 2, none⟩ = some (.bool false) ∧ w2.cell? ⟨gx, ox, none⟩ = some (.string f.n) ∧ w2.cell? ⟨gx, ox + 1, none⟩ = some (.string f.v) ∧ w2.cell? ⟨gx, ox + 2, none⟩ = some (.bool false) ∧ Below V.heap.size V w2) := by
          rintro w1 w2 hb ⟨h0, h1, h2, h3, h4, h5, h6, h7, h8, h9, hB⟩
          exact ⟨keepc hb h0, keepc hb h1, keepc hb h2, keepc hb h3, keepc hb h4, keepc hb h5, keepc hb h6, keepc hb h7, keepc hb h8, keepc hb h9, bt' hB hb⟩
        have hBelV : ∀ w' : World, (w'.cell? ⟨wa.heap.size, 0, none⟩ = some (.slice a' fs.length c') ∧ w'.cell? ⟨wa.heap.size, 1, none⟩ = some (.int .i64 max) ∧ w'.cell? ⟨wb.heap.size, 0, none⟩ = some (.slice (some ⟨gx, ox, none⟩) xs.length cx) ∧ w'.cell? ⟨wb.heap.size, 1, none⟩ = some (.int .i64 max) ∧ w'.cell? ⟨K, 0, none⟩ = some (.string f.n) ∧ w'.cell? ⟨K, 1, none⟩ = some (.string f.v) ∧ w'.cell? ⟨K, 2, none⟩ = some (.bool false) ∧ w'.cell? ⟨gx, ox, none⟩ = some (.string f.n) ∧ w'.cell? ⟨gx, ox + 1, none⟩ = some (.string f.v) ∧ w'.cell? ⟨gx, ox + 2, none⟩ = some (.bool false) ∧ Below V.heap.size V w') → Below V.heap.size V w' := fun w' h => h.2.2.2.2.2.2.2.2.2.2
        have hV0 : V.cell? ⟨wa.heap.size, 0, none⟩ = some (.slice a' fs.length c') ∧ V.cell? ⟨wa.heap.size, 1, none⟩ = some (.int .i64 max) ∧ V.cell? ⟨wb.heap.size, 0, none⟩ = some (.slice (some ⟨gx, ox, none⟩) xs.length cx) ∧ V.cell? ⟨wb.heap.size, 1, none⟩ = some (.int .i64 max) ∧ V.cell? ⟨K, 0, none⟩ = some (.string f.n) ∧ V.cell? ⟨K, 1, none⟩ = some (.string f.v) ∧ V.cell? ⟨K, 2, none⟩ = some (.bool false) ∧ V.cell? ⟨gx, ox, none⟩ = some (.string f.n) ∧ V.cell? ⟨gx, ox + 1, none⟩ = some (.string f.v) ∧ V.cell? ⟨gx, ox + 2, none⟩ = some (.bool false) ∧ Below V.heap.size V V := ⟨q0, q1, q5, q6, k0, k1, k2, d0, d1, d2, Below.refl _ _⟩
        clear q0 q1 q2 q3 q4 q5 q6 k0 k1 k2 d0 d1 d2 qB
        go_region_held3 (fun w' => w'.cell? ⟨wa.heap.size, 0, none⟩ = some (.slice a' fs.length c') ∧ w'.cell? ⟨wa.heap.size, 1, none⟩ = some (.int .i64 max) ∧ w'.cell? ⟨wb.heap.size, 0, none⟩ = some (.slice (some ⟨gx, ox, none⟩) xs.length cx) ∧ w'.cell? ⟨wb.heap.size, 1, none⟩ = some (.int .i64 max) ∧ w'.cell? ⟨K, 0, none⟩ = some (.string f.n) ∧ w'.cell? ⟨K, 1, none⟩ = some (.string f.v) ∧ w'.cell? ⟨K, 2, none⟩ = some (.bool false) ∧ w'.cell? ⟨gx, ox, none⟩ = some (.string f.n) ∧ w'.cell? ⟨gx, ox + 1, none⟩ = some (.string f.v) ∧ w'.cell? ⟨gx, ox + 2, none⟩ = some (.bool false) ∧ Below V.heap.size V w') (first | assumption | exact hkeepV _ _ ((Below.refl _ _).drew) hV0 | exact hkeepV _ _ hbN (by assumption)) ((first | (go_at_call 29; refine (hlf _ (hBelV _ (by assumption))).mono ?_; clear hlf; rintro e wN ⟨rfl, hbN⟩) | (go_at_call 24; refine (htx _ (hBelV _ (by assumption))).mono ?_; clear htx; rintro e wN ⟨rfl, hbN⟩)))
        have hV1 : wN.cell? ⟨wa.heap.size, 0, none⟩ = some (.slice a' fs.length c') ∧ wN.cell? ⟨wa.heap.size, 1, none⟩ = some (.int .i64 max) ∧ wN.cell? ⟨wb.heap.size, 0, none⟩ = some (.slice (some ⟨gx, ox, none⟩) xs.length cx) ∧ wN.cell? ⟨wb.heap.size, 1, none⟩ = some (.int .i64 max) ∧ wN.cell? ⟨K, 0, none⟩ = some (.string f.n) ∧ wN.cell? ⟨K, 1, none⟩ = some (.string f.v) ∧ wN.cell? ⟨K, 2, none⟩ = some (.bool false) ∧ wN.cell? ⟨gx, ox, none⟩ = some (.string f.n) ∧ wN.cell? ⟨gx, ox + 1, none⟩ = some (.string f.v) ∧ wN.cell? ⟨gx, ox + 2, none⟩ = some (.bool false) ∧ Below V.heap.size V wN := by first | assumption | exact hkeepV _ _ hbN (by assumption)
        clear hV0
        have hZ0 := fSum_nonneg xs
        have hZ1 : fSum xs ≤ max := (tOk_parts HTX.out).2.2.2
        by_cases hjl : j = fs.length
        · have hdj : ((j : Int) == (fs.length : Int)) = true := by rw [hjl]; simp
          obtain ⟨q0, q1, q5, q6, k0, k1, k2, d0, d1, d2, qB⟩ := id hV1
          clear hjl
          go_wp2
          go_quiet (fail)
          go_wp2
          go_ret
          exact ⟨rfl, bdrewT (bt' hBW (bt' hBV qB)) _⟩
        · have hjl' : j < fs.length := by omega
          have hdj : ((j : Int) == (fs.length : Int)) = false := by rw [beq_eq_false_iff_ne]; omega
          have hjb : (j : Int) < fs.length := by omega
          have hj0 : (0 : Int) ≤ j := by omega
          have hgr := HGR.out hjl'
          obtain ⟨gt, ot, rfl⟩ := HFV.out.some' (by omega)
          obtain ⟨q0, q1, q5, q6, k0, k1, k2, d0, d1, d2, qB⟩ := id hV1
          have hFU := HFV.out.below qB
          obtain ⟨e0, e1, e2⟩ := hFU.at j hjl'
          have hfb := HSM.out fs[j] (List.getElem_mem hjl')
          obtain ⟨y, hy⟩ : ∃ y, fs[j] = y := ⟨_, rfl⟩
          rw [hy] at e0 e1 e2 hgr hfb
          have hony := fun w => lkOne_any y w (by omega) (by omega)
          unfold Fd.val at hony
          have hy1 : fLen y ≤ 2097156 := by unfold fLen; omega
          have hy0 := fLen_pos y
          obtain ⟨Y, hY⟩ : ∃ Y, fLen y = Y := ⟨_, rfl⟩
          obtain ⟨Z, hZ⟩ : ∃ Z, fSum xs = Z := ⟨_, rfl⟩
          rw [hY] at hony hgr hy1 hy0
          rw [hZ] at htz hgr hZ0 hZ1
          have hzy : IntKind.i64.wrap (Z + Y) = Z + Y := wraps_i64_40 _ (by omega) (by omega)
          have hzd : decide (max < Z + Y) = true := by simpa using hgr
          clear hY hZ hy hfb hFU hjl hjl'
          have hkeepU : ∀ w1 w2 : World, Below w1.heap.size w1 w2 → (w1.cell? ⟨wa.heap.size, 0, none⟩ = some (.slice (some ⟨gt, ot, none⟩) fs.length c') ∧ w1.cell? ⟨wa.heap.size, 1, none⟩ = some (.int .i64 max) ∧ w1.cell? ⟨wb.heap.size, 0, none⟩ = some (.slice (some ⟨gx, ox, none⟩) xs.length cx) ∧ w1.cell? ⟨wb.heap.size, 1, none⟩ = some (.int .i64 max) ∧ w1.cell? ⟨gt, ot + j * 3, none⟩ = some (.string y.n) ∧ w1.cell? ⟨gt, ot + j * 3 + 1, none⟩ = some (.string y.v) ∧ w1.cell? ⟨gt, ot + j * 3 + 2, none⟩ = some (.bool y.q) ∧ Below V.heap.size V w1) → (w2.cell? ⟨wa.heap.size, 0, none⟩ = some (.slice (some ⟨gt, ot, none⟩) fs.length c') ∧ w2.cell? ⟨wa.heap.size, 1, none⟩ = some (.int .i64 max) ∧ w2.cell? ⟨wb.heap.size, 0, none⟩ = some (.slice (some ⟨gx, ox, none⟩) xs.length cx) ∧ w2.cell? ⟨wb.heap.size, 1, none⟩ = some (.int .i64 max) ∧ w2.cell? ⟨gt, ot + j * 3, none⟩ = some (.string y.n) ∧ w2.cell? ⟨gt, ot + j * 3 + 1, none⟩ = some (.string y.v) ∧ w2.cell? ⟨gt, ot + j * 3 + 2, none⟩ = some (.bool y.q) ∧ Below V.heap.size V w2) := by
            rintro w1 w2 hb ⟨h0, h1, h2, h3, h4, h5, h6, hB⟩
            exact ⟨keepc hb h0, keepc hb h1, keepc hb h2, keepc hb h3, keepc hb h4, keepc hb h5, keepc hb h6, bt' hB hb⟩
          have hBelU : ∀ w' : World, (w'.cell? ⟨wa.heap.size, 0, none⟩ = some (.slice (some ⟨gt, ot, none⟩) fs.length c') ∧ w'.cell? ⟨wa.heap.size, 1, none⟩ = some (.int .i64 max) ∧ w'.cell? ⟨wb.heap.size, 0, none⟩ = some (.slice (some ⟨gx, ox, none⟩) xs.length cx) ∧ w'.cell? ⟨wb.heap.size, 1, none⟩ = some (.int .i64 max) ∧ w'.cell? ⟨gt, ot + j * 3, none⟩ = some (.string y.n) ∧ w'.cell? ⟨gt, ot + j * 3 + 1, none⟩ = some (.string y.v) ∧ w'.cell? ⟨gt, ot + j * 3 + 2, none⟩ = some (.bool y.q) ∧ Below V.heap.size V w') → Below V.heap.size V w' := fun w' h => h.2.2.2.2.2.2.2
          have hU0 : wN.cell? ⟨wa.heap.size, 0, none⟩ = some (.slice (some ⟨gt, ot, none⟩) fs.length c') ∧ wN.cell? ⟨wa.heap.size, 1, none⟩ = some (.int .i64 max) ∧ wN.cell? ⟨wb.heap.size, 0, none⟩ = some (.slice (some ⟨gx, ox, none⟩) xs.length cx) ∧ wN.cell? ⟨wb.heap.size, 1, none⟩ = some (.int .i64 max) ∧ wN.cell? ⟨gt, ot + j * 3, none⟩ = some (.string y.n) ∧ wN.cell? ⟨gt, ot + j * 3 + 1, none⟩ = some (.string y.v) ∧ wN.cell? ⟨gt, ot + j * 3 + 2, none⟩ = some (.bool y.q) ∧ Below V.heap.size V wN := ⟨q0, q1, q5, q6, e0, e1, e2, qB⟩
          clear q0 q1 q5 q6 k0 k1 k2 d0 d1 d2 qB e0 e1 e2
          go_wp2
          go_region_held3 (fun w' => w'.cell? ⟨wa.heap.size, 0, none⟩ = some (.slice (some ⟨gt, ot, none⟩) fs.length c') ∧ w'.cell? ⟨wa.heap.size, 1, none⟩ = some (.int .i64 max) ∧ w'.cell? ⟨wb.heap.size, 0, none⟩ = some (.slice (some ⟨gx, ox, none⟩) xs.length cx) ∧ w'.cell? ⟨wb.heap.size, 1, none⟩ = some (.int .i64 max) ∧ w'.cell? ⟨gt, ot + j * 3, none⟩ = some (.string y.n) ∧ w'.cell? ⟨gt, ot + j * 3 + 1, none⟩ = some (.string y.v) ∧ w'.cell? ⟨gt, ot + j * 3 + 2, none⟩ = some (.bool y.q) ∧ Below V.heap.size V w') (first | assumption | exact hkeepU _ _ ((Below.refl _ _).drew) hU0 | exact hkeepU _ _ hbN (by assumption)) ((first | (go_at_call 19; refine (htz _ (hBelU _ (by assumption))).mono ?_; clear htz; rintro e wN ⟨rfl, hbN⟩) | (go_at_call 22; refine (hony _).mono ?_; clear hony; rintro e wN ⟨rfl, hbN⟩)))
          go_wp2
          go_ret
          first | exact ⟨rfl, bt' hBW (bt' hBV (hBelU _ (by first | assumption | exact hkeepU _ _ hbN (by assumption))))⟩ | exact ⟨ret_bool' (by simp; omega), bt' hBW (bt' hBV (hBelU _ (by first | assumption | exact hkeepU _ _ hbN (by assumption))))⟩
end Go.Proofs.Ytafhpcgdlmkbead
