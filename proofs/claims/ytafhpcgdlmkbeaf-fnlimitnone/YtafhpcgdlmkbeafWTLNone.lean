import Derived.Test.YtafhpcgdlmkbeafTL3
import Derived.Test.YtafhpcgdlmkbeafTDraw3
import Derived.Test.YtafhpcgdlmkbeafTI4
import Derived.Deep.RegionHeld3
import Derived.Maps.RangeWalk
namespace Go.Proofs.Ytafhpcgdlmkbeaf
open Go.RowKit
set_option linter.unusedVariables false

theorem fitL_zero (fs : List Fd) : fitL 0 fs = [] := by
  cases fs with
  | nil => rfl
  | cons f t => have := fLen_pos f; rw [fitL, if_neg (by omega)]
theorem addV_a : addV [] 0 ⟨⟨#[97]⟩, ⟨#[]⟩, false⟩ = ([], 0) := by
  have h1 : tOk [] 0 = true := by decide
  have h2 : fOk ⟨⟨#[97]⟩, ⟨#[]⟩, false⟩ = true := by decide +kernel
  rw [addV_ok h1 h2, fitL_zero]

set_option maxRecDepth 100000 in
set_option maxHeartbeats 20000000 in
theorem fnLimitNone_walk (a0 : Option Addr) (len0 cap0 : Nat) (z0 : List Int) (w : World) (w0 : Row w a0 len0 cap0 z0) :
    Calls Try.prog 3 #[.slice a0 len0 cap0] w fun e w' => e = .returned (.bool true) ∧ Below w.heap.size w w' := by
  by_cases c0 : (1048576 : Int) < len0
  · clear w0
    go_enter Try.func3, Try.ntmps3
    go_wp2
    go_ret
    exact ⟨rfl, Below.refl _ _⟩
  have R0 : Hid (Row w a0 len0 cap0 z0) := w0
  clear w0
  go_enter Try.func3, Try.ntmps3
  go_wp2_with fail
  refine (drawTableLimit _ _ _ _ _ R0.out).mono ?_
  rintro e wa ⟨fs, max, a', c', most, rfl, ⟨hl, hsm, m0, m1, hfs⟩, mo0, mo1, hba⟩
  have hbA : Below wa.heap.size wa (wa.alloc (.cells #[.slice a' fs.length c', .int .i64 max] 25)) := (Below.refl _ _).alloc (Nat.le_refl _) _
  have hTA : Hid ((wa.alloc (.cells #[.slice a' fs.length c', .int .i64 max] 25)).heap[wa.heap.size]? = some (.cells #[.slice a' fs.length c', .int .i64 max] 25 (0, 0))) := heap_alloc_last wa _
  have hBA := bt' hba hbA
  have HFS : Hid (Fs (wa.alloc (.cells #[.slice a' fs.length c', .int .i64 max] 25)) a' fs.length c' fs) := hfs.below hbA
  have hoI := fun (w' : World) (h : Fs w' a' fs.length c' fs) => implTableLimit fs a' fs.length c' max most w' h hsm.bd (by omega)
  have hoS := fun (w' : World) (h : Fs w' a' fs.length c' fs) => specTableLimit fs a' fs.length c' max most w' h hsm.bd (by omega)
  have hoT := fun (w' : World) (h : Fs w' a' fs.length c' fs) => specTableOk fs a' fs.length c' max w' h hsm.bd (by omega)
  have hxl := limV_len fs max most
  obtain ⟨⟨xs, mx⟩, hX⟩ : ∃ r, limV fs max most = r := ⟨_, rfl⟩
  rw [hX] at hoI hoS hxl
  have HX : Hid (limV fs max most = (xs, mx)) := hX
  unfold TabAns at hoI hoS
  simp only at hoI hoS hxl
  have HSM : Hid (fsSm fs) := hsm
  clear hX hsm hfs
  go_wp2_with (go_at_call 6; refine (hoI _ HFS.out).mono ?_; clear hoI; rintro e wb ⟨vx, rfl, hownX, hbb⟩; obtain ⟨ax, cx, rfl⟩ := own_formT hownX)
  have hTb := blkB hbb hTA.out
  have hBb := bt' hBA hbb
  have hXB : Below wb.heap.size wb (wb.alloc (.cells #[.slice ax xs.length cx, .int .i64 mx] 25)) := (Below.refl _ _).alloc (Nat.le_refl _) _
  refine wabs (fun W => W.heap[wa.heap.size]? = some (.cells #[.slice a' fs.length c', .int .i64 max] 25 (0, 0)) ∧ W.heap[wb.heap.size]? = some (.cells #[.slice ax xs.length cx, .int .i64 mx] 25 (0, 0)) ∧ Fs W a' fs.length c' fs ∧ Fs W ax xs.length cx xs ∧ Below w.heap.size w W) ⟨blkB hXB hTb, heap_alloc_last wb _, (HFS.out.below hbb).below hXB, (own_Fs hownX).below hXB, bt' hBb hXB⟩ ?_
  rintro W ⟨hTW, hXW, hFT, hFX, hBW⟩
  have HFT : Hid (Fs W a' fs.length c' fs) := hFT
  have HFX : Hid (Fs W ax xs.length cx xs) := hFX
  obtain ⟨i0, i1⟩ := row2c hTW
  obtain ⟨i5, i6⟩ := row2c hXW
  clear hTb hBb hXB hbb hownX hFT hFX hTW hXW hTA hBA HFS hbA hba
  have hkeepW : ∀ w1 w2 : World, Below w1.heap.size w1 w2 → (w1.cell? ⟨wa.heap.size, 0, none⟩ = some (.slice a' fs.length c') ∧ w1.cell? ⟨wa.heap.size, 1, none⟩ = some (.int .i64 max) ∧ w1.cell? ⟨wb.heap.size, 0, none⟩ = some (.slice ax xs.length cx) ∧ w1.cell? ⟨wb.heap.size, 1, none⟩ = some (.int .i64 mx) ∧ Below W.heap.size W w1) → (w2.cell? ⟨wa.heap.size, 0, none⟩ = some (.slice a' fs.length c') ∧ w2.cell? ⟨wa.heap.size, 1, none⟩ = some (.int .i64 max) ∧ w2.cell? ⟨wb.heap.size, 0, none⟩ = some (.slice ax xs.length cx) ∧ w2.cell? ⟨wb.heap.size, 1, none⟩ = some (.int .i64 mx) ∧ Below W.heap.size W w2) := by
    rintro w1 w2 hb ⟨h0, h1, h2, h3, hB⟩
    exact ⟨keepc hb h0, keepc hb h1, keepc hb h2, keepc hb h3, bt' hB hb⟩
  have hBelW : ∀ w' : World, (w'.cell? ⟨wa.heap.size, 0, none⟩ = some (.slice a' fs.length c') ∧ w'.cell? ⟨wa.heap.size, 1, none⟩ = some (.int .i64 max) ∧ w'.cell? ⟨wb.heap.size, 0, none⟩ = some (.slice ax xs.length cx) ∧ w'.cell? ⟨wb.heap.size, 1, none⟩ = some (.int .i64 mx) ∧ Below W.heap.size W w') → Below W.heap.size W w' := fun w' h => h.2.2.2.2
  have hS0 : W.cell? ⟨wa.heap.size, 0, none⟩ = some (.slice a' fs.length c') ∧ W.cell? ⟨wa.heap.size, 1, none⟩ = some (.int .i64 max) ∧ W.cell? ⟨wb.heap.size, 0, none⟩ = some (.slice ax xs.length cx) ∧ W.cell? ⟨wb.heap.size, 1, none⟩ = some (.int .i64 mx) ∧ Below W.heap.size W W := ⟨i0, i1, i5, i6, Below.refl _ _⟩
  clear i0 i1 i5 i6
  have hmx : Try.prog.follows .mixedOrders = true := by kernel_rfl
  cases ht : tOk fs max with
  | false =>
    rw [ht] at hoT
    clear ht
    go_region_held3 (fun w' => w'.cell? ⟨wa.heap.size, 0, none⟩ = some (.slice a' fs.length c') ∧ w'.cell? ⟨wa.heap.size, 1, none⟩ = some (.int .i64 max) ∧ w'.cell? ⟨wb.heap.size, 0, none⟩ = some (.slice ax xs.length cx) ∧ w'.cell? ⟨wb.heap.size, 1, none⟩ = some (.int .i64 mx) ∧ Below W.heap.size W w') (first | assumption | exact hkeepW _ _ ((Below.refl _ _).drew) hS0 | exact hkeepW _ _ hbN (by assumption)) ((first | (go_at_call 8; refine (hoS _ (HFT.out.below (hBelW _ (by assumption)))).mono ?_; rintro e wN ⟨vN, rfl, hownN, hbN⟩; obtain ⟨aN, cN, rfl⟩ := own_formT hownN; have hFN := own_Fs hownN; clear hownN) | (go_at_call 7; refine (lkTable_same xs ax aN cx cN mx _ (HFX.out.below (hBelW _ (by assumption))) hFN (by omega)).mono ?_; clear hFN; rintro e wN ⟨rfl, hbN⟩) | (go_at_call 9; refine (hoT _ (HFT.out.below (hBelW _ (by assumption)))).mono ?_; clear hoT; rintro e wN ⟨rfl, hbN⟩)))
    have hS1 : wN.cell? ⟨wa.heap.size, 0, none⟩ = some (.slice a' fs.length c') ∧ wN.cell? ⟨wa.heap.size, 1, none⟩ = some (.int .i64 max) ∧ wN.cell? ⟨wb.heap.size, 0, none⟩ = some (.slice ax xs.length cx) ∧ wN.cell? ⟨wb.heap.size, 1, none⟩ = some (.int .i64 mx) ∧ Below W.heap.size W wN := by first | assumption | exact hkeepW _ _ hbN (by assumption)
    clear hS0
    go_wp2
    go_region_held3 (fun w' => w'.cell? ⟨wa.heap.size, 0, none⟩ = some (.slice a' fs.length c') ∧ w'.cell? ⟨wa.heap.size, 1, none⟩ = some (.int .i64 max) ∧ w'.cell? ⟨wb.heap.size, 0, none⟩ = some (.slice ax xs.length cx) ∧ w'.cell? ⟨wb.heap.size, 1, none⟩ = some (.int .i64 mx) ∧ Below W.heap.size W w') (first | assumption | exact hkeepW _ _ ((Below.refl _ _).drew) hS1 | exact hkeepW _ _ hbN (by assumption)) ((first | (go_at_call 8; refine (hoS _ (HFT.out.below (hBelW _ (by assumption)))).mono ?_; rintro e wN ⟨vN, rfl, hownN, hbN⟩; obtain ⟨aN, cN, rfl⟩ := own_formT hownN; have hFN := own_Fs hownN; clear hownN) | (go_at_call 7; refine (lkTable_same xs ax aN cx cN mx _ (HFX.out.below (hBelW _ (by assumption))) hFN (by omega)).mono ?_; clear hFN; rintro e wN ⟨rfl, hbN⟩)))
    go_wp2
    go_ret
    exact ⟨rfl, bt' hBW (hBelW _ (by first | assumption | exact hkeepW _ _ hbN (by assumption)))⟩
  | true =>
    rw [ht] at hoT
    have hl0 := fun (w' : World) (h : Fs w' a' fs.length c' fs) => implTableLimit fs a' fs.length c' max 0 w' h HSM.out.bd (by omega)
    rw [limV_ok ht (by decide) (by decide), fitL_zero] at hl0
    have had := fun (w' : World) (a3 : Option Addr) (c3 : Nat) (h : Fs w' a3 0 c3 []) => implTableAdd [] ⟨⟨#[97]⟩, ⟨#[]⟩, false⟩ a3 0 c3 0 w' h (fun f hf => by cases hf) ⟨by decide, by decide⟩ (by decide)
    rw [addV_a] at had
    have hok := fun (w' : World) (a3 : Option Addr) (c3 : Nat) (h : Fs w' a3 0 c3 []) => implTableOk [] a3 0 c3 0 w' h (fun f hf => by cases hf) (by decide)
    rw [show tOk [] 0 = true by decide] at hok
    unfold TabAns at hl0 had
    unfold Fd.val at had
    simp only [List.length_nil] at hl0 had
    clear ht
    go_region_held3 (fun w' => w'.cell? ⟨wa.heap.size, 0, none⟩ = some (.slice a' fs.length c') ∧ w'.cell? ⟨wa.heap.size, 1, none⟩ = some (.int .i64 max) ∧ w'.cell? ⟨wb.heap.size, 0, none⟩ = some (.slice ax xs.length cx) ∧ w'.cell? ⟨wb.heap.size, 1, none⟩ = some (.int .i64 mx) ∧ Below W.heap.size W w') (first | assumption | exact hkeepW _ _ ((Below.refl _ _).drew) hS0 | exact hkeepW _ _ hbN (by assumption)) ((first | (go_at_call 8; refine (hoS _ (HFT.out.below (hBelW _ (by assumption)))).mono ?_; rintro e wN ⟨vN, rfl, hownN, hbN⟩; obtain ⟨aN, cN, rfl⟩ := own_formT hownN; have hFN := own_Fs hownN; clear hownN) | (go_at_call 7; refine (lkTable_same xs ax aN cx cN mx _ (HFX.out.below (hBelW _ (by assumption))) hFN (by omega)).mono ?_; clear hFN; rintro e wN ⟨rfl, hbN⟩) | (go_at_call 9; refine (hoT _ (HFT.out.below (hBelW _ (by assumption)))).mono ?_; clear hoT; rintro e wN ⟨rfl, hbN⟩)))
    have hS1 : wN.cell? ⟨wa.heap.size, 0, none⟩ = some (.slice a' fs.length c') ∧ wN.cell? ⟨wa.heap.size, 1, none⟩ = some (.int .i64 max) ∧ wN.cell? ⟨wb.heap.size, 0, none⟩ = some (.slice ax xs.length cx) ∧ wN.cell? ⟨wb.heap.size, 1, none⟩ = some (.int .i64 mx) ∧ Below W.heap.size W wN := by first | assumption | exact hkeepW _ _ hbN (by assumption)
    obtain ⟨q0, q1, q5, q6, qB⟩ := id hS1
    have hFN1 := HFT.out.below qB
    have hBN := bt' hBW qB
    clear hS0 hS1 qB
    go_wp2_with (first | (go_at_call 6; refine (hl0 _ hFN1).mono ?_; clear hl0; rintro e w3 ⟨v3, rfl, hown3, hb3⟩; obtain ⟨a3, c3, rfl⟩ := own_formT hown3; have hB3 := bt' hBN hb3; have hbn : Below w3.heap.size w3 (w3.alloc (.cells #[.slice a3 0 c3, .int .i64 0] 25)) := (Below.refl _ _).alloc (Nat.le_refl _) _; have hN3 : (w3.alloc (.cells #[.slice a3 0 c3, .int .i64 0] 25)).heap[w3.heap.size]? = some (.cells #[.slice a3 0 c3, .int .i64 0] 25 (0, 0)) := heap_alloc_last w3 _; have hF3 := (own_Fs hown3 : Fs w3 a3 0 c3 []).below hbn) | (go_at_call 10; refine (had _ a3 c3 hF3).mono ?_; clear had; rintro e w4 ⟨v4, rfl, hown4, hb4⟩; obtain ⟨a4, c4, rfl⟩ := own_formT hown4; have hB4 := bt' (bt' hB3 hbn) hb4; have hN4 := blkB hb4 hN3; obtain ⟨n0, n1⟩ := row2c hN4; have hby : Below w4.heap.size w4 (w4.alloc (.cells #[.slice a4 0 c4, .int .i64 0] 25)) := (Below.refl _ _).alloc (Nat.le_refl _) _; have hF4 := (own_Fs hown4 : Fs w4 a4 0 c4 []).below hby; have hz4 := (Array.getElem?_eq_some_iff.1 hN4).1) | (go_at_call 11; refine (hok _ a4 c4 hF4).mono ?_; clear hok; rintro e w5 ⟨rfl, hb5⟩))
    go_ret
    exact ⟨rfl, bt' (bt' hB4 hby) hb5⟩
end Go.Proofs.Ytafhpcgdlmkbeaf
