import Derived.Test.YtafhpcgdlmkbeaeTL2
import Derived.Test.YtafhpcgdlmkbeaeTDraw3
import Derived.Test.YtafhpcgdlmkbeaeTI4
import Derived.Deep.RegionHeld3
import Derived.Maps.RangeWalk
namespace Go.Proofs.Ytafhpcgdlmkbeae
open Go.RowKit
set_option linter.unusedVariables false

theorem gvals (w : World) (t : TypeId) (m : Nat) (h : m < 3) : ∃ v : ByteArray, v.size ≤ 2 ∧ fOk ⟨⟨#[97]⟩, v, false⟩ = true ∧ (w.alloc (.cells #[.string ⟨#[]⟩, .string ⟨#[120]⟩, .string ⟨#[121, 121]⟩] t)).cell? ⟨w.heap.size, m, none⟩ = some (.string v) := by
  have hr := heap_alloc_last w (.cells #[.string ⟨#[]⟩, .string ⟨#[120]⟩, .string ⟨#[121, 121]⟩] t)
  obtain ⟨h0, h1, h2⟩ := row3c hr
  match m, h with
  | 0, _ => exact ⟨⟨#[]⟩, by decide, by decide +kernel, h0⟩
  | 1, _ => exact ⟨⟨#[120]⟩, by decide, by decide +kernel, h1⟩
  | 2, _ => exact ⟨⟨#[121, 121]⟩, by decide, by decide +kernel, h2⟩

set_option maxRecDepth 100000 in
set_option maxHeartbeats 20000000 in
theorem fnAddTwo_walk (a0 : Option Addr) (len0 cap0 : Nat) (z0 : List Int) (a1 : Option Addr) (len1 cap1 : Nat) (z1 : List Int) (w : World) (w0 : Row w a0 len0 cap0 z0) (w1 : Row w a1 len1 cap1 z1) :
    Calls Try.prog 8 #[.slice a0 len0 cap0, .slice a1 len1 cap1] w fun e w' => e = .returned (.bool true) ∧ Below w.heap.size w w' := by
  by_cases c0 : (1048576 : Int) < len0
  · clear w0 w1
    go_enter Try.func8, Try.ntmps8
    go_wp2
    go_ret
    exact ⟨rfl, Below.refl _ _⟩
  by_cases c1 : (1048576 : Int) < len1
  · clear w0 w1
    go_enter Try.func8, Try.ntmps8
    go_wp2
    go_ret
    exact ⟨rfl, Below.refl _ _⟩
  have R0 : Hid (Row w a0 len0 cap0 z0) := w0
  have R1 : Hid (Row w a1 len1 cap1 z1) := w1
  clear w0 w1
  go_enter Try.func8, Try.ntmps8
  go_wp2_with fail
  refine (drawTableAdd _ _ _ _ _ R0.out).mono ?_
  rintro e wa ⟨fs, max, a', c', f, rfl, ⟨hl, hsm, m0, m1, hfs⟩, hfn, hfv, hba⟩
  have hbA : Below wa.heap.size wa ((wa.alloc (.cells #[.slice a' fs.length c', .int .i64 max] 25)).alloc (.cells #[.string f.n, .string f.v, .bool f.q] 35)) := ((Below.refl _ _).alloc (Nat.le_refl _) _).alloc (by simp) _
  have hTA : Hid (((wa.alloc (.cells #[.slice a' fs.length c', .int .i64 max] 25)).alloc (.cells #[.string f.n, .string f.v, .bool f.q] 35)).heap[wa.heap.size]? = some (.cells #[.slice a' fs.length c', .int .i64 max] 25 (0, 0))) := blkT (heap_alloc_last wa _) _
  have hFA : Hid (((wa.alloc (.cells #[.slice a' fs.length c', .int .i64 max] 25)).alloc (.cells #[.string f.n, .string f.v, .bool f.q] 35)).heap[wa.heap.size + 1]? = some (.cells #[.string f.n, .string f.v, .bool f.q] 35 (0, 0))) := by
    have h := heap_alloc_last (wa.alloc (.cells #[.slice a' fs.length c', .int .i64 max] 25)) (.cells #[.string f.n, .string f.v, .bool f.q] 35)
    rw [World.size_alloc] at h
    exact h
  have hBA := bt' hba hbA
  have HFS : Hid (Fs ((wa.alloc (.cells #[.slice a' fs.length c', .int .i64 max] 25)).alloc (.cells #[.string f.n, .string f.v, .bool f.q] 35)) a' fs.length c' fs) := hfs.below hbA
  have hoI := fun (w' : World) (h : Fs w' a' fs.length c' fs) => implTableAdd fs f a' fs.length c' max w' h hsm.bd ⟨by omega, by omega⟩ (by omega)
  have hoS := fun (w' : World) (h : Fs w' a' fs.length c' fs) => specTableAdd fs f a' fs.length c' max w' h hsm.bd ⟨by omega, by omega⟩ (by omega)
  have hoT := fun (w' : World) (h : Fs w' a' fs.length c' fs) => specTableOk fs a' fs.length c' max w' h hsm.bd (by omega)
  have hoF := fun (w' : World) => specFieldOk f w' (by omega) (by omega)
  have hxl := addV_len fs max f
  obtain ⟨⟨xs, mx⟩, hX⟩ : ∃ r, addV fs max f = r := ⟨_, rfl⟩
  rw [hX] at hoI hoS hxl
  have HX : Hid (addV fs max f = (xs, mx)) := hX
  unfold TabAns at hoI hoS
  simp only at hoI hoS hxl
  unfold Fd.val at hoI hoS hoF ⊢
  have HSM : Hid (fsSm fs) := hsm
  clear hX hsm hfs
  go_wp2_with (go_at_call 27; refine (hoI _ HFS.out).mono ?_; clear hoI; rintro e wb ⟨vx, rfl, hownX, hbb⟩; obtain ⟨ax, cx, rfl⟩ := own_formT hownX)
  have hTb := blkB hbb hTA.out
  have hFb := blkB hbb hFA.out
  have hBb := bt' hBA hbb
  have hXB : Below wb.heap.size wb (wb.alloc (.cells #[.slice ax xs.length cx, .int .i64 mx] 25)) := (Below.refl _ _).alloc (Nat.le_refl _) _
  refine wabs (fun W => W.heap[wa.heap.size]? = some (.cells #[.slice a' fs.length c', .int .i64 max] 25 (0, 0)) ∧ W.heap[wa.heap.size + 1]? = some (.cells #[.string f.n, .string f.v, .bool f.q] 35 (0, 0)) ∧ W.heap[wb.heap.size]? = some (.cells #[.slice ax xs.length cx, .int .i64 mx] 25 (0, 0)) ∧ Fs W a' fs.length c' fs ∧ Fs W ax xs.length cx xs ∧ Below w.heap.size w W) ⟨blkB hXB hTb, blkB hXB hFb, heap_alloc_last wb _, (HFS.out.below hbb).below hXB, (own_Fs hownX).below hXB, bt' hBb hXB⟩ ?_
  rintro W ⟨hTW, hFW, hXW, hFT, hFX, hBW⟩
  have HFT : Hid (Fs W a' fs.length c' fs) := hFT
  have HFX : Hid (Fs W ax xs.length cx xs) := hFX
  obtain ⟨i0, i1⟩ := row2c hTW
  obtain ⟨i2, i3, i4⟩ := row3c hFW
  obtain ⟨i5, i6⟩ := row2c hXW
  clear hTb hFb hBb hXB hbb hownX hFT hFX hTW hFW hXW hTA hFA hBA HFS hbA hba
  have hkeepW : ∀ w1 w2 : World, Below w1.heap.size w1 w2 → (w1.cell? ⟨wa.heap.size, 0, none⟩ = some (.slice a' fs.length c') ∧ w1.cell? ⟨wa.heap.size, 1, none⟩ = some (.int .i64 max) ∧ w1.cell? ⟨wa.heap.size + 1, 0, none⟩ = some (.string f.n) ∧ w1.cell? ⟨wa.heap.size + 1, 1, none⟩ = some (.string f.v) ∧ w1.cell? ⟨wa.heap.size + 1, 2, none⟩ = some (.bool f.q) ∧ w1.cell? ⟨wb.heap.size, 0, none⟩ = some (.slice ax xs.length cx) ∧ w1.cell? ⟨wb.heap.size, 1, none⟩ = some (.int .i64 mx) ∧ Below W.heap.size W w1) → (w2.cell? ⟨wa.heap.size, 0, none⟩ = some (.slice a' fs.length c') ∧ w2.cell? ⟨wa.heap.size, 1, none⟩ = some (.int .i64 max) ∧ w2.cell? ⟨wa.heap.size + 1, 0, none⟩ = some (.string f.n) ∧ w2.cell? ⟨wa.heap.size + 1, 1, none⟩ = some (.string f.v) ∧ w2.cell? ⟨wa.heap.size + 1, 2, none⟩ = some (.bool f.q) ∧ w2.cell? ⟨wb.heap.size, 0, none⟩ = some (.slice ax xs.length cx) ∧ w2.cell? ⟨wb.heap.size, 1, none⟩ = some (.int .i64 mx) ∧ Below W.heap.size W w2) := by
    rintro w1 w2 hb ⟨h0, h1, h2, h3, h4, h5, h6, hB⟩
    exact ⟨keepc hb h0, keepc hb h1, keepc hb h2, keepc hb h3, keepc hb h4, keepc hb h5, keepc hb h6, bt' hB hb⟩
  have hBelW : ∀ w' : World, (w'.cell? ⟨wa.heap.size, 0, none⟩ = some (.slice a' fs.length c') ∧ w'.cell? ⟨wa.heap.size, 1, none⟩ = some (.int .i64 max) ∧ w'.cell? ⟨wa.heap.size + 1, 0, none⟩ = some (.string f.n) ∧ w'.cell? ⟨wa.heap.size + 1, 1, none⟩ = some (.string f.v) ∧ w'.cell? ⟨wa.heap.size + 1, 2, none⟩ = some (.bool f.q) ∧ w'.cell? ⟨wb.heap.size, 0, none⟩ = some (.slice ax xs.length cx) ∧ w'.cell? ⟨wb.heap.size, 1, none⟩ = some (.int .i64 mx) ∧ Below W.heap.size W w') → Below W.heap.size W w' := fun w' h => h.2.2.2.2.2.2.2
  have hS0 : W.cell? ⟨wa.heap.size, 0, none⟩ = some (.slice a' fs.length c') ∧ W.cell? ⟨wa.heap.size, 1, none⟩ = some (.int .i64 max) ∧ W.cell? ⟨wa.heap.size + 1, 0, none⟩ = some (.string f.n) ∧ W.cell? ⟨wa.heap.size + 1, 1, none⟩ = some (.string f.v) ∧ W.cell? ⟨wa.heap.size + 1, 2, none⟩ = some (.bool f.q) ∧ W.cell? ⟨wb.heap.size, 0, none⟩ = some (.slice ax xs.length cx) ∧ W.cell? ⟨wb.heap.size, 1, none⟩ = some (.int .i64 mx) ∧ Below W.heap.size W W := ⟨i0, i1, i2, i3, i4, i5, i6, Below.refl _ _⟩
  clear i0 i1 i2 i3 i4 i5 i6
  have hmx : Try.prog.follows .mixedOrders = true := by kernel_rfl
  cases ht : tOk fs max with
  | false =>
    rw [ht] at hoT
    clear ht
    refine wp_region_noPanic ?_
    refine wp_region_held_drew (S := fun w' => w'.cell? ⟨wa.heap.size, 0, none⟩ = some (.slice a' fs.length c') ∧ w'.cell? ⟨wa.heap.size, 1, none⟩ = some (.int .i64 max) ∧ w'.cell? ⟨wa.heap.size + 1, 0, none⟩ = some (.string f.n) ∧ w'.cell? ⟨wa.heap.size + 1, 1, none⟩ = some (.string f.v) ∧ w'.cell? ⟨wa.heap.size + 1, 2, none⟩ = some (.bool f.q) ∧ w'.cell? ⟨wb.heap.size, 0, none⟩ = some (.slice ax xs.length cx) ∧ w'.cell? ⟨wb.heap.size, 1, none⟩ = some (.int .i64 mx) ∧ Below W.heap.size W w') (by kernel_rfl) ?_ (fun hHeld => ?_)
    · exact hkeepW _ _ ((Below.refl _ _).drew) hS0
    (refine wpAnyH_take (i := 0) (v := ?vaW0) (by simp only [List.getElem?_toArray, List.getElem?_cons_zero]; rfl) (by kernel_rfl) (by kernel_rfl) (by kernel_rfl) (fun _ _ _ h => h) (Or.inl ⟨by rfl, ?hyaW0⟩) (by assumption) ?restaW0; case hyaW0 => ((intro w' hSw); (try dsimp only at hSw); go_simp; (try with_reducible rfl)); try go_frame)
    (refine wpAnyH_take (i := 1) (v := ?vaW1) (by simp only [List.getElem?_toArray, List.getElem?_cons_succ, List.getElem?_cons_zero]; rfl) (by kernel_rfl) (by kernel_rfl) (by kernel_rfl) (fun _ _ _ h => h) (Or.inl ⟨by rfl, ?hyaW1⟩) (by assumption) ?restaW1; case hyaW1 => ((intro w' hSw); (try dsimp only at hSw); go_simp; (try with_reducible rfl)); try go_frame)
    (refine wpAnyH_take (i := 2) (v := ?vaW2) (by simp only [List.getElem?_toArray, List.getElem?_cons_succ, List.getElem?_cons_zero]; rfl) (by kernel_rfl) (by kernel_rfl) (by kernel_rfl) (fun _ _ _ h => h) (Or.inl ⟨by rfl, ?hyaW2⟩) (by assumption) ?restaW2; case hyaW2 => ((intro w' hSw); (try dsimp only at hSw); go_simp; (try with_reducible rfl)); try go_frame)
    refine wpAnyH_ready (rs := [3]) (by kernel_rfl) (by simp) ?_
    refine AllReadyH.cons (by simp only [List.getElem?_toArray, List.getElem?_cons_succ, List.getElem?_cons_zero]; rfl) (fun K hK => ?_) AllReadyH.nil
    first | (go_at_call 28; refine (hoS _ (HFT.out.below (hBelW _ (by assumption)))).mono ?_; rintro e wN ⟨vN, rfl, hownN, hbN⟩; obtain ⟨aN, cN, rfl⟩ := own_formT hownN; have hFN := own_Fs hownN; clear hownN) | (go_simp; (go_at_call 28; refine (hoS _ (HFT.out.below (hBelW _ (by assumption)))).mono ?_; rintro e wN ⟨vN, rfl, hownN, hbN⟩; obtain ⟨aN, cN, rfl⟩ := own_formT hownN; have hFN := own_Fs hownN; clear hownN))
    try (go_wp2_with fail)
    refine hK.out _ _ ?_ (fun hHeld => ?_)
    · (try dsimp only); exact hkeepW _ _ hbN (by assumption)
    clear hK K
    try go_frame
    refine wpAnyH_ready (rs := [4]) (by kernel_rfl) (by simp) ?_
    refine AllReadyH.cons (by simp only [List.getElem?_toArray, List.getElem?_cons_succ, List.getElem?_cons_zero]; rfl) (fun K hK => ?_) AllReadyH.nil
    first | (go_at_call 11; refine (lkTable_same xs ax aN cx cN mx _ (HFX.out.below (hBelW _ (by assumption))) hFN (by omega)).mono ?_; clear hFN; rintro e wN ⟨rfl, hbN⟩) | (go_simp; (go_at_call 11; refine (lkTable_same xs ax aN cx cN mx _ (HFX.out.below (hBelW _ (by assumption))) hFN (by omega)).mono ?_; clear hFN; rintro e wN ⟨rfl, hbN⟩))
    try (go_wp2_with fail)
    refine hK.out _ _ ?_ (fun hHeld => ?_)
    · (try dsimp only); exact hkeepW _ _ hbN (by assumption)
    clear hK K
    try go_frame
    (refine wpAnyH_take (i := 5) (v := ?vaW5) (by simp only [List.getElem?_toArray, List.getElem?_cons_succ, List.getElem?_cons_zero]; rfl) (by kernel_rfl) (by kernel_rfl) (by kernel_rfl) (fun _ _ _ h => h) (Or.inl ⟨by rfl, ?hyaW5⟩) (by assumption) ?restaW5; case hyaW5 => ((intro w' hSw); (try dsimp only at hSw); go_simp; (try with_reducible rfl)); try go_frame)
    (refine wpAnyH_take (i := 6) (v := ?vaW6) (by simp only [List.getElem?_toArray, List.getElem?_cons_succ, List.getElem?_cons_zero]; rfl) (by kernel_rfl) (by kernel_rfl) (by kernel_rfl) (fun _ _ _ h => h) (Or.inl ⟨by rfl, ?hyaW6⟩) (by assumption) ?restaW6; case hyaW6 => ((intro w' hSw); (try dsimp only at hSw); go_simp; (try with_reducible rfl)); try go_frame)
    (refine wpAnyH_take (i := 7) (v := ?vaW7) (by simp only [List.getElem?_toArray, List.getElem?_cons_succ, List.getElem?_cons_zero]; rfl) (by kernel_rfl) (by kernel_rfl) (by kernel_rfl) (fun _ _ _ h => h) (Or.inl ⟨by rfl, ?hyaW7⟩) (by assumption) ?restaW7; case hyaW7 => ((intro w' hSw); (try dsimp only at hSw); go_simp; (try with_reducible rfl)); try go_frame)
    refine wpAnyH_ready (rs := [8]) (by kernel_rfl) (by simp) ?_
    refine AllReadyH.cons (by simp only [List.getElem?_toArray, List.getElem?_cons_succ, List.getElem?_cons_zero]; rfl) (fun K hK => ?_) AllReadyH.nil
    first | (go_at_call 13; refine (hoT _ (HFT.out.below (hBelW _ (by assumption)))).mono ?_; clear hoT; rintro e wN ⟨rfl, hbN⟩) | (go_simp; (go_at_call 13; refine (hoT _ (HFT.out.below (hBelW _ (by assumption)))).mono ?_; clear hoT; rintro e wN ⟨rfl, hbN⟩))
    try (go_wp2_with fail)
    refine hK.out _ _ ?_ (fun hHeld => ?_)
    · (try dsimp only); exact hkeepW _ _ hbN (by assumption)
    clear hK K
    try go_frame
    (refine wpAnyH_take (i := 9) (v := ?vaW9) (by simp only [List.getElem?_toArray, List.getElem?_cons_succ, List.getElem?_cons_zero]; rfl) (by kernel_rfl) (by kernel_rfl) (by kernel_rfl) (fun _ _ _ h => h) (Or.inl ⟨by rfl, ?hyaW9⟩) (by assumption) ?restaW9; case hyaW9 => ((intro w' hSw); (try dsimp only at hSw); go_simp; (try with_reducible rfl)); try go_frame)
    (refine wpAnyH_take (i := 10) (v := ?vaW10) (by simp only [List.getElem?_toArray, List.getElem?_cons_succ, List.getElem?_cons_zero]; rfl) (by kernel_rfl) (by kernel_rfl) (by kernel_rfl) (fun _ _ _ h => h) (Or.inl ⟨by rfl, ?hyaW10⟩) (by assumption) ?restaW10; case hyaW10 => ((intro w' hSw); (try dsimp only at hSw); go_simp; (try with_reducible rfl)); try go_frame)
    (refine wpAnyH_take (i := 11) (v := ?vaW11) (by simp only [List.getElem?_toArray, List.getElem?_cons_succ, List.getElem?_cons_zero]; rfl) (by kernel_rfl) (by kernel_rfl) (by kernel_rfl) (fun _ _ _ h => h) (Or.inl ⟨by rfl, ?hyaW11⟩) (by assumption) ?restaW11; case hyaW11 => ((intro w' hSw); (try dsimp only at hSw); go_simp; (try with_reducible rfl)); try go_frame)
    (refine wpAnyH_take (i := 12) (v := undef) (by simp only [List.getElem?_toArray, List.getElem?_cons_succ, List.getElem?_cons_zero]; rfl) (by kernel_rfl) (by kernel_rfl) (by kernel_rfl) (fun _ _ _ h => h) (Or.inr ⟨by rfl, rfl⟩) (by assumption) ?_; try go_frame)
    (refine wpAnyH_take (i := 13) (v := undef) (by simp only [List.getElem?_toArray, List.getElem?_cons_succ, List.getElem?_cons_zero]; rfl) (by kernel_rfl) (by kernel_rfl) (by kernel_rfl) (fun _ _ _ h => h) (Or.inr ⟨by rfl, rfl⟩) (by assumption) ?_; try go_frame)
    (refine wpAnyH_take (i := 14) (v := undef) (by simp only [List.getElem?_toArray, List.getElem?_cons_succ, List.getElem?_cons_zero]; rfl) (by kernel_rfl) (by kernel_rfl) (by kernel_rfl) (fun _ _ _ h => h) (Or.inr ⟨by rfl, rfl⟩) (by assumption) ?_; try go_frame)
    (refine wpAnyH_take (i := 15) (v := ?vaW15) (by simp only [List.getElem?_toArray, List.getElem?_cons_succ, List.getElem?_cons_zero]; rfl) (by kernel_rfl) (by kernel_rfl) (by kernel_rfl) (fun _ _ _ h => h) (Or.inl ⟨by rfl, ?hyaW15⟩) (by assumption) ?restaW15; case hyaW15 => ((intro w' hSw); (try dsimp only at hSw); go_simp; (try with_reducible rfl)); try go_frame)
    refine wpAnyH_done (by kernel_rfl) ?_ _
    refine NoPanic.normal ?_
    have hS1 : wN.cell? ⟨wa.heap.size, 0, none⟩ = some (.slice a' fs.length c') ∧ wN.cell? ⟨wa.heap.size, 1, none⟩ = some (.int .i64 max) ∧ wN.cell? ⟨wa.heap.size + 1, 0, none⟩ = some (.string f.n) ∧ wN.cell? ⟨wa.heap.size + 1, 1, none⟩ = some (.string f.v) ∧ wN.cell? ⟨wa.heap.size + 1, 2, none⟩ = some (.bool f.q) ∧ wN.cell? ⟨wb.heap.size, 0, none⟩ = some (.slice ax xs.length cx) ∧ wN.cell? ⟨wb.heap.size, 1, none⟩ = some (.int .i64 mx) ∧ Below W.heap.size W wN := by first | assumption | exact hkeepW _ _ hbN (by assumption)
    clear hS0
    go_wp2
    go_region_held3 (fun w' => w'.cell? ⟨wa.heap.size, 0, none⟩ = some (.slice a' fs.length c') ∧ w'.cell? ⟨wa.heap.size, 1, none⟩ = some (.int .i64 max) ∧ w'.cell? ⟨wa.heap.size + 1, 0, none⟩ = some (.string f.n) ∧ w'.cell? ⟨wa.heap.size + 1, 1, none⟩ = some (.string f.v) ∧ w'.cell? ⟨wa.heap.size + 1, 2, none⟩ = some (.bool f.q) ∧ w'.cell? ⟨wb.heap.size, 0, none⟩ = some (.slice ax xs.length cx) ∧ w'.cell? ⟨wb.heap.size, 1, none⟩ = some (.int .i64 mx) ∧ Below W.heap.size W w') (first | assumption | exact hkeepW _ _ ((Below.refl _ _).drew) hS1 | exact hkeepW _ _ hbN (by assumption)) ((first | (go_at_call 28; refine (hoS _ (HFT.out.below (hBelW _ (by assumption)))).mono ?_; rintro e wN ⟨vN, rfl, hownN, hbN⟩; obtain ⟨aN, cN, rfl⟩ := own_formT hownN; have hFN := own_Fs hownN; clear hownN) | (go_at_call 11; refine (lkTable_same xs ax aN cx cN mx _ (HFX.out.below (hBelW _ (by assumption))) hFN (by omega)).mono ?_; clear hFN; rintro e wN ⟨rfl, hbN⟩)))
    go_wp2
    go_ret
    exact ⟨rfl, bt' hBW (hBelW _ (by first | assumption | exact hkeepW _ _ hbN (by assumption)))⟩
  | true =>
    rw [ht] at hoT
    cases hfk : fOk f with
    | false =>
      rw [hfk] at hoF
      clear ht hfk
      go_region_held3 (fun w' => w'.cell? ⟨wa.heap.size, 0, none⟩ = some (.slice a' fs.length c') ∧ w'.cell? ⟨wa.heap.size, 1, none⟩ = some (.int .i64 max) ∧ w'.cell? ⟨wa.heap.size + 1, 0, none⟩ = some (.string f.n) ∧ w'.cell? ⟨wa.heap.size + 1, 1, none⟩ = some (.string f.v) ∧ w'.cell? ⟨wa.heap.size + 1, 2, none⟩ = some (.bool f.q) ∧ w'.cell? ⟨wb.heap.size, 0, none⟩ = some (.slice ax xs.length cx) ∧ w'.cell? ⟨wb.heap.size, 1, none⟩ = some (.int .i64 mx) ∧ Below W.heap.size W w') (first | assumption | exact hkeepW _ _ ((Below.refl _ _).drew) hS0 | exact hkeepW _ _ hbN (by assumption)) ((first | (go_at_call 28; refine (hoS _ (HFT.out.below (hBelW _ (by assumption)))).mono ?_; rintro e wN ⟨vN, rfl, hownN, hbN⟩; obtain ⟨aN, cN, rfl⟩ := own_formT hownN; have hFN := own_Fs hownN; clear hownN) | (go_at_call 11; refine (lkTable_same xs ax aN cx cN mx _ (HFX.out.below (hBelW _ (by assumption))) hFN (by omega)).mono ?_; clear hFN; rintro e wN ⟨rfl, hbN⟩) | (go_at_call 13; refine (hoT _ (HFT.out.below (hBelW _ (by assumption)))).mono ?_; clear hoT; rintro e wN ⟨rfl, hbN⟩) | (go_at_call 25; refine (hoF _).mono ?_; clear hoF; rintro e wN ⟨rfl, hbN⟩)))
      have hS1 : wN.cell? ⟨wa.heap.size, 0, none⟩ = some (.slice a' fs.length c') ∧ wN.cell? ⟨wa.heap.size, 1, none⟩ = some (.int .i64 max) ∧ wN.cell? ⟨wa.heap.size + 1, 0, none⟩ = some (.string f.n) ∧ wN.cell? ⟨wa.heap.size + 1, 1, none⟩ = some (.string f.v) ∧ wN.cell? ⟨wa.heap.size + 1, 2, none⟩ = some (.bool f.q) ∧ wN.cell? ⟨wb.heap.size, 0, none⟩ = some (.slice ax xs.length cx) ∧ wN.cell? ⟨wb.heap.size, 1, none⟩ = some (.int .i64 mx) ∧ Below W.heap.size W wN := by first | assumption | exact hkeepW _ _ hbN (by assumption)
      clear hS0
      go_wp2
      go_region_held3 (fun w' => w'.cell? ⟨wa.heap.size, 0, none⟩ = some (.slice a' fs.length c') ∧ w'.cell? ⟨wa.heap.size, 1, none⟩ = some (.int .i64 max) ∧ w'.cell? ⟨wa.heap.size + 1, 0, none⟩ = some (.string f.n) ∧ w'.cell? ⟨wa.heap.size + 1, 1, none⟩ = some (.string f.v) ∧ w'.cell? ⟨wa.heap.size + 1, 2, none⟩ = some (.bool f.q) ∧ w'.cell? ⟨wb.heap.size, 0, none⟩ = some (.slice ax xs.length cx) ∧ w'.cell? ⟨wb.heap.size, 1, none⟩ = some (.int .i64 mx) ∧ Below W.heap.size W w') (first | assumption | exact hkeepW _ _ ((Below.refl _ _).drew) hS1 | exact hkeepW _ _ hbN (by assumption)) ((first | (go_at_call 28; refine (hoS _ (HFT.out.below (hBelW _ (by assumption)))).mono ?_; rintro e wN ⟨vN, rfl, hownN, hbN⟩; obtain ⟨aN, cN, rfl⟩ := own_formT hownN; have hFN := own_Fs hownN; clear hownN) | (go_at_call 11; refine (lkTable_same xs ax aN cx cN mx _ (HFX.out.below (hBelW _ (by assumption))) hFN (by omega)).mono ?_; clear hFN; rintro e wN ⟨rfl, hbN⟩)))
      go_wp2
      go_ret
      exact ⟨rfl, bt' hBW (hBelW _ (by first | assumption | exact hkeepW _ _ hbN (by assumption)))⟩
    | true =>
      rw [hfk] at hoF
      have hV := HX.out
      rw [addV_ok ht hfk] at hV
      injection hV with hV1 hV2
      subst hV2
      have HV1 : Hid (fitL max (⟨f.n, f.v, false⟩ :: fs) = xs) := hV1
      have HT : Hid (tOk fs max = true) := ht
      have HK : Hid (fOk f = true) := hfk
      clear ht hfk hV1 HX
      go_region_held3 (fun w' => w'.cell? ⟨wa.heap.size, 0, none⟩ = some (.slice a' fs.length c') ∧ w'.cell? ⟨wa.heap.size, 1, none⟩ = some (.int .i64 max) ∧ w'.cell? ⟨wa.heap.size + 1, 0, none⟩ = some (.string f.n) ∧ w'.cell? ⟨wa.heap.size + 1, 1, none⟩ = some (.string f.v) ∧ w'.cell? ⟨wa.heap.size + 1, 2, none⟩ = some (.bool f.q) ∧ w'.cell? ⟨wb.heap.size, 0, none⟩ = some (.slice ax xs.length cx) ∧ w'.cell? ⟨wb.heap.size, 1, none⟩ = some (.int .i64 max) ∧ Below W.heap.size W w') (first | assumption | exact hkeepW _ _ ((Below.refl _ _).drew) hS0 | exact hkeepW _ _ hbN (by assumption)) ((first | (go_at_call 28; refine (hoS _ (HFT.out.below (hBelW _ (by assumption)))).mono ?_; rintro e wN ⟨vN, rfl, hownN, hbN⟩; obtain ⟨aN, cN, rfl⟩ := own_formT hownN; have hFN := own_Fs hownN; clear hownN) | (go_at_call 11; refine (lkTable_same xs ax aN cx cN max _ (HFX.out.below (hBelW _ (by assumption))) hFN (by omega)).mono ?_; clear hFN; rintro e wN ⟨rfl, hbN⟩) | (go_at_call 13; refine (hoT _ (HFT.out.below (hBelW _ (by assumption)))).mono ?_; clear hoT; rintro e wN ⟨rfl, hbN⟩) | (go_at_call 25; refine (hoF _).mono ?_; clear hoF; rintro e wN ⟨rfl, hbN⟩)))
      have hS1 : wN.cell? ⟨wa.heap.size, 0, none⟩ = some (.slice a' fs.length c') ∧ wN.cell? ⟨wa.heap.size, 1, none⟩ = some (.int .i64 max) ∧ wN.cell? ⟨wa.heap.size + 1, 0, none⟩ = some (.string f.n) ∧ wN.cell? ⟨wa.heap.size + 1, 1, none⟩ = some (.string f.v) ∧ wN.cell? ⟨wa.heap.size + 1, 2, none⟩ = some (.bool f.q) ∧ wN.cell? ⟨wb.heap.size, 0, none⟩ = some (.slice ax xs.length cx) ∧ wN.cell? ⟨wb.heap.size, 1, none⟩ = some (.int .i64 max) ∧ Below W.heap.size W wN := by first | assumption | exact hkeepW _ _ hbN (by assumption)
      clear hS0 hoS
      obtain ⟨m, hm⟩ : ∃ m : Nat, (len1 : Int) % 3 = m := ⟨len1 % 3, (Int.natCast_emod len1 3).symm⟩
      have hm3 : m < 3 := by omega
      have hmI : (m : Int) < 3 := by omega
      have hm0 : (0 : Int) ≤ m := by omega
      obtain ⟨v, hv2, hgk, hcv⟩ := gvals wN 9 m hm3
      have HGK : Hid (fOk ⟨⟨#[97]⟩, v, false⟩ = true) := hgk
      clear hgk
      go_wp2
      have hbs : Below wN.heap.size wN ((wN.alloc (.cells #[.string ⟨#[]⟩, .string ⟨#[120]⟩, .string ⟨#[121, 121]⟩] 9)).alloc (.cells #[.string ⟨#[97]⟩, .string v, .bool false] 35)) := ((Below.refl _ _).alloc (Nat.le_refl _) _).alloc (by simp) _
      have hS2 := hkeepW _ _ hbs hS1
      have hGr : ((wN.alloc (.cells #[.string ⟨#[]⟩, .string ⟨#[120]⟩, .string ⟨#[121, 121]⟩] 9)).alloc (.cells #[.string ⟨#[97]⟩, .string v, .bool false] 35)).heap[wN.heap.size + 1]? = some (.cells #[.string ⟨#[97]⟩, .string v, .bool false] 35 (0, 0)) := by
        have h := heap_alloc_last (wN.alloc (.cells #[.string ⟨#[]⟩, .string ⟨#[120]⟩, .string ⟨#[121, 121]⟩] 9)) (.cells #[.string ⟨#[97]⟩, .string v, .bool false] 35)
        rwa [World.size_alloc] at h
      obtain ⟨G, hG⟩ : ∃ G, G = wN.heap.size + 1 := ⟨_, rfl⟩
      rw [← hG] at hGr ⊢
      refine wabs (fun V => V.heap[G]? = some (.cells #[.string ⟨#[97]⟩, .string v, .bool false] 35 (0, 0)) ∧ V.cell? ⟨wa.heap.size, 0, none⟩ = some (.slice a' fs.length c') ∧ V.cell? ⟨wa.heap.size, 1, none⟩ = some (.int .i64 max) ∧ V.cell? ⟨wa.heap.size + 1, 0, none⟩ = some (.string f.n) ∧ V.cell? ⟨wa.heap.size + 1, 1, none⟩ = some (.string f.v) ∧ V.cell? ⟨wa.heap.size + 1, 2, none⟩ = some (.bool f.q) ∧ V.cell? ⟨wb.heap.size, 0, none⟩ = some (.slice ax xs.length cx) ∧ V.cell? ⟨wb.heap.size, 1, none⟩ = some (.int .i64 max) ∧ Below W.heap.size W V) ⟨hGr, hS2⟩ ?_
      rintro V ⟨hGV, hSV⟩
      have hBV := hBelW _ hSV
      obtain ⟨q0, q1, q2, q3, q4, q5, q6, qB⟩ := id hSV
      obtain ⟨g0, g1, g2⟩ := row3c hGV
      have HFXV : Hid (Fs V ax xs.length cx xs) := HFX.out.below hBV
      clear hbs hGr hcv hG hS2 hS1 hGV hSV qB
      have hkeepV : ∀ w1 w2 : World, Below w1.heap.size w1 w2 → (w1.cell? ⟨wa.heap.size, 0, none⟩ = some (.slice a' fs.length c') ∧ w1.cell? ⟨wa.heap.size, 1, none⟩ = some (.int .i64 max) ∧ w1.cell? ⟨wa.heap.size + 1, 0, none⟩ = some (.string f.n) ∧ w1.cell? ⟨wa.heap.size + 1, 1, none⟩ = some (.string f.v) ∧ w1.cell? ⟨wa.heap.size + 1, 2, none⟩ = some (.bool f.q) ∧ w1.cell? ⟨wb.heap.size, 0, none⟩ = some (.slice ax xs.length cx) ∧ w1.cell? ⟨wb.heap.size, 1, none⟩ = some (.int .i64 max) ∧ w1.cell? ⟨G, 0, none⟩ = some (.string ⟨#[97]⟩) ∧ w1.cell? ⟨G, 1, none⟩ = some (.string v) ∧ w1.cell? ⟨G, 2, none⟩ = some (.bool false) ∧ Below V.heap.size V w1) → (w2.cell? ⟨wa.heap.size, 0, none⟩ = some (.slice a' fs.length c') ∧ w2.cell? ⟨wa.heap.size, 1, none⟩ = some (.int .i64 max) ∧ w2.cell? ⟨wa.heap.size + 1, 0, none⟩ = some (.string f.n) ∧ w2.cell? ⟨wa.heap.size + 1, 1, none⟩ = some (.string f.v) ∧ w2.cell? ⟨wa.heap.size + 1, 2, none⟩ = some (.bool f.q) ∧ w2.cell? ⟨wb.heap.size, 0, none⟩ = some (.slice ax xs.length cx) ∧ w2.cell? ⟨wb.heap.size, 1, none⟩ = some (.int .i64 max) ∧ w2.cell? ⟨G, 0, none⟩ = some (.string ⟨#[97]⟩) ∧ w2.cell? ⟨G, 1, none⟩ = some (.string v) ∧ w2.cell? ⟨G, 2, none⟩ = some (.bool false) ∧ Below V.heap.size V w2) := by
        rintro w1 w2 hb ⟨h0, h1, h2, h3, h4, h5, h6, h7, h8, h9, hB⟩
        exact ⟨keepc hb h0, keepc hb h1, keepc hb h2, keepc hb h3, keepc hb h4, keepc hb h5, keepc hb h6, keepc hb h7, keepc hb h8, keepc hb h9, bt' hB hb⟩
      have hBelV : ∀ w' : World, (w'.cell? ⟨wa.heap.size, 0, none⟩ = some (.slice a' fs.length c') ∧ w'.cell? ⟨wa.heap.size, 1, none⟩ = some (.int .i64 max) ∧ w'.cell? ⟨wa.heap.size + 1, 0, none⟩ = some (.string f.n) ∧ w'.cell? ⟨wa.heap.size + 1, 1, none⟩ = some (.string f.v) ∧ w'.cell? ⟨wa.heap.size + 1, 2, none⟩ = some (.bool f.q) ∧ w'.cell? ⟨wb.heap.size, 0, none⟩ = some (.slice ax xs.length cx) ∧ w'.cell? ⟨wb.heap.size, 1, none⟩ = some (.int .i64 max) ∧ w'.cell? ⟨G, 0, none⟩ = some (.string ⟨#[97]⟩) ∧ w'.cell? ⟨G, 1, none⟩ = some (.string v) ∧ w'.cell? ⟨G, 2, none⟩ = some (.bool false) ∧ Below V.heap.size V w') → Below V.heap.size V w' := fun w' h => h.2.2.2.2.2.2.2.2.2.2
      have hV0 : V.cell? ⟨wa.heap.size, 0, none⟩ = some (.slice a' fs.length c') ∧ V.cell? ⟨wa.heap.size, 1, none⟩ = some (.int .i64 max) ∧ V.cell? ⟨wa.heap.size + 1, 0, none⟩ = some (.string f.n) ∧ V.cell? ⟨wa.heap.size + 1, 1, none⟩ = some (.string f.v) ∧ V.cell? ⟨wa.heap.size + 1, 2, none⟩ = some (.bool f.q) ∧ V.cell? ⟨wb.heap.size, 0, none⟩ = some (.slice ax xs.length cx) ∧ V.cell? ⟨wb.heap.size, 1, none⟩ = some (.int .i64 max) ∧ V.cell? ⟨G, 0, none⟩ = some (.string ⟨#[97]⟩) ∧ V.cell? ⟨G, 1, none⟩ = some (.string v) ∧ V.cell? ⟨G, 2, none⟩ = some (.bool false) ∧ Below V.heap.size V V := ⟨q0, q1, q2, q3, q4, q5, q6, g0, g1, g2, Below.refl _ _⟩
      clear q0 q1 q2 q3 q4 q5 q6 g0 g1 g2
      have hone := fun w => lkOne_any f w (by omega) (by omega)
      have hong := fun w => lkOne_any ⟨⟨#[97]⟩, v, false⟩ w (show 1 ≤ 1048576 by decide) (show v.size ≤ 1048576 by omega)
      unfold Fd.val at hone hong
      have hx0 := fLen_pos f
      have hx9 : fLen f ≤ 2097156 := by unfold fLen; omega
      have hy0 := fLen_pos ⟨⟨#[97]⟩, v, false⟩
      have hy9 : fLen ⟨⟨#[97]⟩, v, false⟩ ≤ 100 := by show (1 : Int) + v.size + 4 ≤ 100; omega
      obtain ⟨x, hx⟩ : ∃ x, fLen f = x := ⟨_, rfl⟩
      obtain ⟨y, hy⟩ : ∃ y, fLen ⟨⟨#[97]⟩, v, false⟩ = y := ⟨_, rfl⟩
      rw [hx] at hone hx0 hx9
      rw [hy] at hong hy0 hy9
      have HXE : Hid (fLen f = x) := hx
      have HYE : Hid (fLen ⟨⟨#[97]⟩, v, false⟩ = y) := hy
      have hxy : IntKind.i64.wrap (x + y) = x + y := wraps_i64_40 _ (by omega) (by omega)
      clear hx hy
      go_region_held3 (fun w' => w'.cell? ⟨wa.heap.size, 0, none⟩ = some (.slice a' fs.length c') ∧ w'.cell? ⟨wa.heap.size, 1, none⟩ = some (.int .i64 max) ∧ w'.cell? ⟨wa.heap.size + 1, 0, none⟩ = some (.string f.n) ∧ w'.cell? ⟨wa.heap.size + 1, 1, none⟩ = some (.string f.v) ∧ w'.cell? ⟨wa.heap.size + 1, 2, none⟩ = some (.bool f.q) ∧ w'.cell? ⟨wb.heap.size, 0, none⟩ = some (.slice ax xs.length cx) ∧ w'.cell? ⟨wb.heap.size, 1, none⟩ = some (.int .i64 max) ∧ w'.cell? ⟨G, 0, none⟩ = some (.string ⟨#[97]⟩) ∧ w'.cell? ⟨G, 1, none⟩ = some (.string v) ∧ w'.cell? ⟨G, 2, none⟩ = some (.bool false) ∧ Below V.heap.size V w') (first | assumption | exact hkeepV _ _ ((Below.refl _ _).drew) hV0 | exact hkeepV _ _ hbN (by assumption)) ((first | (go_at_call 17; refine (hone _).mono ?_; clear hone; rintro e wN ⟨rfl, hbN⟩) | (go_at_call 17; refine (hong _).mono ?_; clear hong; rintro e wN ⟨rfl, hbN⟩)))
      have hV1 : wN.cell? ⟨wa.heap.size, 0, none⟩ = some (.slice a' fs.length c') ∧ wN.cell? ⟨wa.heap.size, 1, none⟩ = some (.int .i64 max) ∧ wN.cell? ⟨wa.heap.size + 1, 0, none⟩ = some (.string f.n) ∧ wN.cell? ⟨wa.heap.size + 1, 1, none⟩ = some (.string f.v) ∧ wN.cell? ⟨wa.heap.size + 1, 2, none⟩ = some (.bool f.q) ∧ wN.cell? ⟨wb.heap.size, 0, none⟩ = some (.slice ax xs.length cx) ∧ wN.cell? ⟨wb.heap.size, 1, none⟩ = some (.int .i64 max) ∧ wN.cell? ⟨G, 0, none⟩ = some (.string ⟨#[97]⟩) ∧ wN.cell? ⟨G, 1, none⟩ = some (.string v) ∧ wN.cell? ⟨G, 2, none⟩ = some (.bool false) ∧ Below V.heap.size V wN := by first | assumption | exact hkeepV _ _ hbN (by assumption)
      clear hV0
      obtain ⟨q0, q1, q2, q3, q4, q5, q6, g0, g1, g2, qB⟩ := id hV1
      by_cases hgt : max < x + y
      · have hdg : decide (max < x + y) = true := by simpa using hgt
        go_wp2
        go_ret
        exact ⟨rfl, bt' hBW (bt' hBV qB)⟩
      · have hle : x + y ≤ max := by omega
        have hdg : decide (max < x + y) = false := by simpa using hle
        obtain ⟨R1, hR1, hR2, hR3, hR4, hR5⟩ := add_fits HT.out HK.out (by rw [HXE.out]; omega)
        have hxsR : xs = ⟨f.n, f.v, false⟩ :: R1 := by rw [← HV1.out, hR1]
        have htx : tOk xs max = true := by rw [hxsR]; exact hR4
        have hsmx : fsSm xs := by
          rw [hxsR, hR2]
          intro y hy
          rcases List.mem_cons.1 hy with rfl | hy
          · exact ⟨hfn, hfv⟩
          · exact HSM.out y (List.mem_of_mem_take hy)
        obtain ⟨R2, hS1, hS2, hS3, hS4, hS5⟩ := add_fits htx HGK.out (by rw [HYE.out]; omega)
        have hadd := fun (w' : World) (h : Fs w' ax xs.length cx xs) => implTableAdd xs ⟨⟨#[97]⟩, v, false⟩ ax xs.length cx max w' h hsmx.bd ⟨show 1 ≤ 1048576 by decide, show v.size ≤ 1048576 by omega⟩ (by omega)
        rw [addV_ok htx HGK.out, hS1] at hadd
        have hR2f : ∃ R3, R2 = ⟨f.n, f.v, false⟩ :: R3 := by
          have h1 : fitL max (⟨⟨#[97]⟩, v, false⟩ :: xs) = ⟨⟨#[97]⟩, v, false⟩ :: R2 := hS1
          rw [hxsR, fitL, HYE.out, if_pos (by omega), fitL] at h1
          rw [if_pos (by show fLen f ≤ _; rw [HXE.out]; omega)] at h1
          injection h1 with _ h2
          exact ⟨_, h2.symm⟩
        obtain ⟨R3, hR3e⟩ := hR2f
        have hyl2 : R2.length ≤ xs.length := hS3
        obtain ⟨ys, hys⟩ : ∃ ys, (⟨⟨#[97]⟩, v, false⟩ : Fd) :: R2 = ys := ⟨_, rfl⟩
        rw [hys] at hadd hS4
        have hyb : ys.length ≤ 25 := by rw [← hys, List.length_cons]; omega
        have hyl : 2 ≤ ys.length := by rw [← hys, hR3e]; simp
        have HY0 : Hid (ys = ⟨⟨#[97]⟩, v, false⟩ :: ⟨f.n, f.v, false⟩ :: R3) := by show ys = _; rw [← hys, hR3e]
        have hsmy : fsSm ys := by
          rw [← hys, hS2]
          intro z hz
          rcases List.mem_cons.1 hz with rfl | hz
          · exact ⟨show 1 ≤ 20 by decide, show v.size ≤ 20 by omega⟩
          · exact hsmx z (List.mem_of_mem_take hz)
        have hty := fun (w' : World) (ay : Option Addr) (cy : Nat) (h : Fs w' ay ys.length cy ys) => implTableOk ys ay ys.length cy max w' h hsmy.bd (by omega)
        rw [hS4] at hty
        unfold TabAns at hadd
        unfold Fd.val at hadd
        simp only at hadd
        clear hys hR3e hS1 hS2 hS3 hS4 hS5 hR1 hR2 hR3 hR4 hR5 hxsR htx hsmx hsmy HT HK HV1 hgt
        have hBx := bt' (bt' hBW hBV) qB
        have hFx := HFXV.out.below qB
        go_wp2_with (go_at_call 27; refine (hadd _ hFx).mono ?_; clear hadd; rintro e w4 ⟨v4, rfl, hown4, hb4⟩; obtain ⟨ay, cy, rfl⟩ := own_formT hown4; have hU := hkeepV _ _ hb4 hV1; obtain ⟨s0, s1, s2, s3, s4, s5, s6, h0, h1, h2, sB⟩ := id hU; obtain ⟨e2, e3, e4⟩ : (w4.alloc (.cells #[.slice ay ys.length cy, .int .i64 max] 25)).cell? ⟨wa.heap.size + 1, 0, none⟩ = some (.string f.n) ∧ (w4.alloc (.cells #[.slice ay ys.length cy, .int .i64 max] 25)).cell? ⟨wa.heap.size + 1, 1, none⟩ = some (.string f.v) ∧ (w4.alloc (.cells #[.slice ay ys.length cy, .int .i64 max] 25)).cell? ⟨wa.heap.size + 1, 2, none⟩ = some (.bool f.q) := ⟨keepc ((Below.refl _ _).alloc (Nat.le_refl _) _) s2, keepc ((Below.refl _ _).alloc (Nat.le_refl _) _) s3, keepc ((Below.refl _ _).alloc (Nat.le_refl _) _) s4⟩; have hFlt : wa.heap.size + 1 < w4.heap.size := World.block_lt_of_cell? w4 _ s2; have hGlt : G < w4.heap.size := World.block_lt_of_cell? w4 _ h0)
        have hb5 : Below w4.heap.size w4 ((w4.alloc (.cells #[.slice ay ys.length cy, .int .i64 max] 25)).alloc (.cells #[.string f.n, .string f.v, .bool false] 35)) := ((Below.refl _ _).alloc (Nat.le_refl _) _).alloc (by simp) _
        have hYr : ((w4.alloc (.cells #[.slice ay ys.length cy, .int .i64 max] 25)).alloc (.cells #[.string f.n, .string f.v, .bool false] 35)).heap[w4.heap.size]? = some (.cells #[.slice ay ys.length cy, .int .i64 max] 25 (0, 0)) := blkT (heap_alloc_last w4 _) _
        have hKr : ((w4.alloc (.cells #[.slice ay ys.length cy, .int .i64 max] 25)).alloc (.cells #[.string f.n, .string f.v, .bool false] 35)).heap[w4.heap.size + 1]? = some (.cells #[.string f.n, .string f.v, .bool false] 35 (0, 0)) := by
          have h := heap_alloc_last (w4.alloc (.cells #[.slice ay ys.length cy, .int .i64 max] 25)) (.cells #[.string f.n, .string f.v, .bool false] 35)
          rwa [World.size_alloc] at h
        have hFy := (own_Fs hown4).below hb5
        refine wabs (fun U => U.heap[w4.heap.size]? = some (.cells #[.slice ay ys.length cy, .int .i64 max] 25 (0, 0)) ∧ U.heap[w4.heap.size + 1]? = some (.cells #[.string f.n, .string f.v, .bool false] 35 (0, 0)) ∧ U.cell? ⟨G, 0, none⟩ = some (.string ⟨#[97]⟩) ∧ U.cell? ⟨G, 1, none⟩ = some (.string v) ∧ U.cell? ⟨G, 2, none⟩ = some (.bool false) ∧ Fs U ay ys.length cy ys ∧ Below w.heap.size w U) ⟨hYr, hKr, keepc hb5 h0, keepc hb5 h1, keepc hb5 h2, hFy, bt' (bt' hBx hb4) hb5⟩ ?_
        clear hYr hKr hFy hb5 e2 e3 e4 s0 s1 s2 s3 s4 s5 s6 h0 h1 h2 sB hU hV1 hFx hBx q0 q1 q2 q3 q4 q5 q6 g0 g1 g2 qB hown4 hb4
        rintro U ⟨hYU, hKU, n0, n1, n2, hFU, hBU⟩
        obtain ⟨y0, y1⟩ := row2c hYU
        obtain ⟨k0, k1, k2⟩ := row3c hKU
        have HFU : Hid (Fs U ay ys.length cy ys) := hFU
        obtain ⟨gy, oy, rfl⟩ := hFU.some' (by omega)
        obtain ⟨d0, d1, d2⟩ := hFU.at 0 (by omega)
        obtain ⟨d3, d4, d5⟩ := hFU.at 1 (by omega)
        have e00 : ys[0]'(by omega) = ⟨⟨#[97]⟩, v, false⟩ := by simp only [HY0.out]; rfl
        have e01 : ys[1]'(by omega) = ⟨f.n, f.v, false⟩ := by simp only [HY0.out]; rfl
        rw [e00] at d0 d1 d2
        rw [e01] at d3 d4 d5
        simp only [Nat.zero_mul, Nat.add_zero, Nat.one_mul, Nat.add_assoc, Nat.reduceAdd] at d0 d1 d2 d3 d4 d5
        have hl2 : decide (2 ≤ (ys.length : Int)) = true := by rw [decide_eq_true_eq]; omega
        have hl3 : (2 : Int) ≤ (ys.length : Int) := by omega
        have hl4 : 0 < ys.length := by omega
        have hl5 : 1 < ys.length := by omega
        have hl6 : (1 : Int) < (ys.length : Int) := by omega
        clear hYU hKU e00 e01 hFU
        have hkeepU : ∀ w1 w2 : World, Below w1.heap.size w1 w2 → (w1.cell? ⟨w4.heap.size, 0, none⟩ = some (.slice (some ⟨gy, oy, none⟩) ys.length cy) ∧ w1.cell? ⟨w4.heap.size, 1, none⟩ = some (.int .i64 max) ∧ w1.cell? ⟨w4.heap.size + 1, 0, none⟩ = some (.string f.n) ∧ w1.cell? ⟨w4.heap.size + 1, 1, none⟩ = some (.string f.v) ∧ w1.cell? ⟨w4.heap.size + 1, 2, none⟩ = some (.bool false) ∧ w1.cell? ⟨G, 0, none⟩ = some (.string ⟨#[97]⟩) ∧ w1.cell? ⟨G, 1, none⟩ = some (.string v) ∧ w1.cell? ⟨G, 2, none⟩ = some (.bool false) ∧ w1.cell? ⟨gy, oy, none⟩ = some (.string ⟨#[97]⟩) ∧ w1.cell? ⟨gy, oy + 1, none⟩ = some (.string v) ∧ w1.cell? ⟨gy, oy + 2, none⟩ = some (.bool false) ∧ w1.cell? ⟨gy, oy + 3, none⟩ = some (.string f.n) ∧ w1.cell? ⟨gy, oy + 4, none⟩ = some (.string f.v) ∧ w1.cell? ⟨gy, oy + 5, none⟩ = some (.bool false) ∧ Below U.heap.size U w1) → (w2.cell? ⟨w4.heap.size, 0, none⟩ = some (.slice (some ⟨gy, oy, none⟩) ys.length cy) ∧ w2.cell? ⟨w4.heap.size, 1, none⟩ = some (.int .i64 max) ∧ w2.cell? ⟨w4.heap.size + 1, 0, none⟩ = some (.string f.n) ∧ w2.cell? ⟨w4.heap.size + 1, 1, none⟩ = some (.string f.v) ∧ w2.cell? ⟨w4.heap.size + 1, 2, none⟩ = some (.bool false) ∧ w2.cell? ⟨G, 0, none⟩ = some (.string ⟨#[97]⟩) ∧ w2.cell? ⟨G, 1, none⟩ = some (.string v) ∧ w2.cell? ⟨G, 2, none⟩ = some (.bool false) ∧ w2.cell? ⟨gy, oy, none⟩ = some (.string ⟨#[97]⟩) ∧ w2.cell? ⟨gy, oy + 1, none⟩ = some (.string v) ∧ w2.cell? ⟨gy, oy + 2, none⟩ = some (.bool false) ∧ w2.cell? ⟨gy, oy + 3, none⟩ = some (.string f.n) ∧ w2.cell? ⟨gy, oy + 4, none⟩ = some (.string f.v) ∧ w2.cell? ⟨gy, oy + 5, none⟩ = some (.bool false) ∧ Below U.heap.size U w2) := by
          rintro w1 w2 hb ⟨h0, h1, h2, h3, h4, h5, h6, h7, h8, h9, h10, h11, h12, h13, hB⟩
          exact ⟨keepc hb h0, keepc hb h1, keepc hb h2, keepc hb h3, keepc hb h4, keepc hb h5, keepc hb h6, keepc hb h7, keepc hb h8, keepc hb h9, keepc hb h10, keepc hb h11, keepc hb h12, keepc hb h13, bt' hB hb⟩
        have hBelU : ∀ w' : World, (w'.cell? ⟨w4.heap.size, 0, none⟩ = some (.slice (some ⟨gy, oy, none⟩) ys.length cy) ∧ w'.cell? ⟨w4.heap.size, 1, none⟩ = some (.int .i64 max) ∧ w'.cell? ⟨w4.heap.size + 1, 0, none⟩ = some (.string f.n) ∧ w'.cell? ⟨w4.heap.size + 1, 1, none⟩ = some (.string f.v) ∧ w'.cell? ⟨w4.heap.size + 1, 2, none⟩ = some (.bool false) ∧ w'.cell? ⟨G, 0, none⟩ = some (.string ⟨#[97]⟩) ∧ w'.cell? ⟨G, 1, none⟩ = some (.string v) ∧ w'.cell? ⟨G, 2, none⟩ = some (.bool false) ∧ w'.cell? ⟨gy, oy, none⟩ = some (.string ⟨#[97]⟩) ∧ w'.cell? ⟨gy, oy + 1, none⟩ = some (.string v) ∧ w'.cell? ⟨gy, oy + 2, none⟩ = some (.bool false) ∧ w'.cell? ⟨gy, oy + 3, none⟩ = some (.string f.n) ∧ w'.cell? ⟨gy, oy + 4, none⟩ = some (.string f.v) ∧ w'.cell? ⟨gy, oy + 5, none⟩ = some (.bool false) ∧ Below U.heap.size U w') → Below U.heap.size U w' := fun w' h => h.2.2.2.2.2.2.2.2.2.2.2.2.2.2
        have hU0 : U.cell? ⟨w4.heap.size, 0, none⟩ = some (.slice (some ⟨gy, oy, none⟩) ys.length cy) ∧ U.cell? ⟨w4.heap.size, 1, none⟩ = some (.int .i64 max) ∧ U.cell? ⟨w4.heap.size + 1, 0, none⟩ = some (.string f.n) ∧ U.cell? ⟨w4.heap.size + 1, 1, none⟩ = some (.string f.v) ∧ U.cell? ⟨w4.heap.size + 1, 2, none⟩ = some (.bool false) ∧ U.cell? ⟨G, 0, none⟩ = some (.string ⟨#[97]⟩) ∧ U.cell? ⟨G, 1, none⟩ = some (.string v) ∧ U.cell? ⟨G, 2, none⟩ = some (.bool false) ∧ U.cell? ⟨gy, oy, none⟩ = some (.string ⟨#[97]⟩) ∧ U.cell? ⟨gy, oy + 1, none⟩ = some (.string v) ∧ U.cell? ⟨gy, oy + 2, none⟩ = some (.bool false) ∧ U.cell? ⟨gy, oy + 3, none⟩ = some (.string f.n) ∧ U.cell? ⟨gy, oy + 4, none⟩ = some (.string f.v) ∧ U.cell? ⟨gy, oy + 5, none⟩ = some (.bool false) ∧ Below U.heap.size U U := ⟨y0, y1, k0, k1, k2, n0, n1, n2, d0, d1, d2, d3, d4, d5, Below.refl _ _⟩
        clear y0 y1 k0 k1 k2 n0 n1 n2 d0 d1 d2 d3 d4 d5
        go_region_held3 (fun w' => w'.cell? ⟨w4.heap.size, 0, none⟩ = some (.slice (some ⟨gy, oy, none⟩) ys.length cy) ∧ w'.cell? ⟨w4.heap.size, 1, none⟩ = some (.int .i64 max) ∧ w'.cell? ⟨w4.heap.size + 1, 0, none⟩ = some (.string f.n) ∧ w'.cell? ⟨w4.heap.size + 1, 1, none⟩ = some (.string f.v) ∧ w'.cell? ⟨w4.heap.size + 1, 2, none⟩ = some (.bool false) ∧ w'.cell? ⟨G, 0, none⟩ = some (.string ⟨#[97]⟩) ∧ w'.cell? ⟨G, 1, none⟩ = some (.string v) ∧ w'.cell? ⟨G, 2, none⟩ = some (.bool false) ∧ w'.cell? ⟨gy, oy, none⟩ = some (.string ⟨#[97]⟩) ∧ w'.cell? ⟨gy, oy + 1, none⟩ = some (.string v) ∧ w'.cell? ⟨gy, oy + 2, none⟩ = some (.bool false) ∧ w'.cell? ⟨gy, oy + 3, none⟩ = some (.string f.n) ∧ w'.cell? ⟨gy, oy + 4, none⟩ = some (.string f.v) ∧ w'.cell? ⟨gy, oy + 5, none⟩ = some (.bool false) ∧ Below U.heap.size U w') (first | assumption | exact hkeepU _ _ ((Below.refl _ _).drew) hU0 | exact hkeepU _ _ hbN (by assumption)) ((first | (go_at_call 15; refine (hty _ _ _ (HFU.out.below (hBelU _ (by assumption)))).mono ?_; clear hty; rintro e wN ⟨rfl, hbN⟩)))
        go_wp2
        go_ret
        exact ⟨rfl, bt' hBU (hBelU _ (by first | assumption | exact hkeepU _ _ hbN (by assumption)))⟩
end Go.Proofs.Ytafhpcgdlmkbeae
