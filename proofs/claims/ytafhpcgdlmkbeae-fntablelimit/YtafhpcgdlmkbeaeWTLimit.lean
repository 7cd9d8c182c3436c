import Derived.Test.YtafhpcgdlmkbeaeTL3
import Derived.Test.YtafhpcgdlmkbeaeTDraw3
import Derived.Test.YtafhpcgdlmkbeaeTI4
import Derived.Deep.RegionHeld3
import Derived.Deep.RegionLaw
import Derived.Deep.QuietTactic
import Derived.BigQuiet
import Derived.Maps.RangeWalk
namespace Go.Proofs.Ytafhpcgdlmkbeae
open Go.RowKit
set_option linter.unusedVariables false

set_option maxRecDepth 100000 in
set_option maxHeartbeats 20000000 in
theorem fnTableLimit_walk (a0 : Option Addr) (len0 cap0 : Nat) (z0 : List Int) (w : World) (w0 : Row w a0 len0 cap0 z0) :
    Calls Try.prog 3 #[.slice a0 len0 cap0] w fun e w' => e = .returned (.bool true) ∧ Below w.heap.size w w' := by
  by_cases c0 : (1048576 : Int) < len0
  · clear w0
    go_enter Try.func3, Try.ntmps3
    go_wp2
    go_ret
    exact ⟨rfl, Below.refl _ _⟩
  have R0 : Hid (Row w a0 len0 cap0 z0) := w0
  clear w0
  go_enter Try.func3, Try.ntmps3
  go_wp2_with fail
  refine (drawTableLimit _ _ _ _ _ R0.out).mono ?_
  rintro e wa ⟨fs, max, a', c', most, rfl, ⟨hl, hsm, m0, m1, hfs⟩, mo0, mo1, hba⟩
  have hbA : Below wa.heap.size wa (wa.alloc (.cells #[.slice a' fs.length c', .int .i64 max] 25)) := (Below.refl _ _).alloc (Nat.le_refl _) _
  have hTA : Hid ((wa.alloc (.cells #[.slice a' fs.length c', .int .i64 max] 25)).heap[wa.heap.size]? = some (.cells #[.slice a' fs.length c', .int .i64 max] 25 (0, 0))) := heap_alloc_last wa _
  have hBA := bt' hba hbA
  have HFS : Hid (Fs (wa.alloc (.cells #[.slice a' fs.length c', .int .i64 max] 25)) a' fs.length c' fs) := hfs.below hbA
  have hoI := fun (w' : World) (h : Fs w' a' fs.length c' fs) => implTableLimit fs a' fs.length c' max most w' h hsm.bd (by omega)
  have hoS := fun (w' : World) (h : Fs w' a' fs.length c' fs) => specTableLimit fs a' fs.length c' max most w' h hsm.bd (by omega)
  have hoT := fun (w' : World) (h : Fs w' a' fs.length c' fs) => specTableOk fs a' fs.length c' max w' h hsm.bd (by omega)
  have hxl := limV_len fs max most
  obtain ⟨⟨xs, mx⟩, hX⟩ : ∃ r, limV fs max most = r := ⟨_, rfl⟩
  rw [hX] at hoI hoS hxl
  have HX : Hid (limV fs max most = (xs, mx)) := hX
  unfold TabAns at hoI hoS
  simp only at hoI hoS hxl
  have HSM : Hid (fsSm fs) := hsm
  clear hX hsm hfs
  go_wp2_with (go_at_call 10; refine (hoI _ HFS.out).mono ?_; clear hoI; rintro e wb ⟨vx, rfl, hownX, hbb⟩; obtain ⟨ax, cx, rfl⟩ := own_formT hownX)
  have hTb := blkB hbb hTA.out
  have hBb := bt' hBA hbb
  have hXB : Below wb.heap.size wb (wb.alloc (.cells #[.slice ax xs.length cx, .int .i64 mx] 25)) := (Below.refl _ _).alloc (Nat.le_refl _) _
  refine wabs (fun W => W.heap[wa.heap.size]? = some (.cells #[.slice a' fs.length c', .int .i64 max] 25 (0, 0)) ∧ W.heap[wb.heap.size]? = some (.cells #[.slice ax xs.length cx, .int .i64 mx] 25 (0, 0)) ∧ Fs W a' fs.length c' fs ∧ Fs W ax xs.length cx xs ∧ Below w.heap.size w W) ⟨blkB hXB hTb, heap_alloc_last wb _, (HFS.out.below hbb).below hXB, (own_Fs hownX).below hXB, bt' hBb hXB⟩ ?_
  rintro W ⟨hTW, hXW, hFT, hFX, hBW⟩
  have HFT : Hid (Fs W a' fs.length c' fs) := hFT
  have HFX : Hid (Fs W ax xs.length cx xs) := hFX
  obtain ⟨i0, i1⟩ := row2c hTW
  obtain ⟨i5, i6⟩ := row2c hXW
  clear hTb hBb hXB hbb hownX hFT hFX hTW hXW hTA hBA HFS hbA hba
  have hkeepW : ∀ w1 w2 : World, Below w1.heap.size w1 w2 → (w1.cell? ⟨wa.heap.size, 0, none⟩ = some (.slice a' fs.length c') ∧ w1.cell? ⟨wa.heap.size, 1, none⟩ = some (.int .i64 max) ∧ w1.cell? ⟨wb.heap.size, 0, none⟩ = some (.slice ax xs.length cx) ∧ w1.cell? ⟨wb.heap.size, 1, none⟩ = some (.int .i64 mx) ∧ Below W.heap.size W w1) → (w2.cell? ⟨wa.heap.size, 0, none⟩ = some (.slice a' fs.length c') ∧ w2.cell? ⟨wa.heap.size, 1, none⟩ = some (.int .i64 max) ∧ w2.cell? ⟨wb.heap.size, 0, none⟩ = some (.slice ax xs.length cx) ∧ w2.cell? ⟨wb.heap.size, 1, none⟩ = some (.int .i64 mx) ∧ Below W.heap.size W w2) := by
    rintro w1 w2 hb ⟨h0, h1, h2, h3, hB⟩
    exact ⟨keepc hb h0, keepc hb h1, keepc hb h2, keepc hb h3, bt' hB hb⟩
  have hBelW : ∀ w' : World, (w'.cell? ⟨wa.heap.size, 0, none⟩ = some (.slice a' fs.length c') ∧ w'.cell? ⟨wa.heap.size, 1, none⟩ = some (.int .i64 max) ∧ w'.cell? ⟨wb.heap.size, 0, none⟩ = some (.slice ax xs.length cx) ∧ w'.cell? ⟨wb.heap.size, 1, none⟩ = some (.int .i64 mx) ∧ Below W.heap.size W w') → Below W.heap.size W w' := fun w' h => h.2.2.2.2
  have hS0 : W.cell? ⟨wa.heap.size, 0, none⟩ = some (.slice a' fs.length c') ∧ W.cell? ⟨wa.heap.size, 1, none⟩ = some (.int .i64 max) ∧ W.cell? ⟨wb.heap.size, 0, none⟩ = some (.slice ax xs.length cx) ∧ W.cell? ⟨wb.heap.size, 1, none⟩ = some (.int .i64 mx) ∧ Below W.heap.size W W := ⟨i0, i1, i5, i6, Below.refl _ _⟩
  clear i0 i1 i5 i6
  have hmx : Try.prog.follows .mixedOrders = true := by kernel_rfl
  cases ht : tOk fs max with
  | false =>
    rw [ht] at hoT
    clear ht
    refine wp_region_noPanic ?_
    refine wp_region_held_drew (S := fun w' => w'.cell? ⟨wa.heap.size, 0, none⟩ = some (.slice a' fs.length c') ∧ w'.cell? ⟨wa.heap.size, 1, none⟩ = some (.int .i64 max) ∧ w'.cell? ⟨wb.heap.size, 0, none⟩ = some (.slice ax xs.length cx) ∧ w'.cell? ⟨wb.heap.size, 1, none⟩ = some (.int .i64 mx) ∧ Below W.heap.size W w') (by kernel_rfl) ?_ (fun hHeld => ?_)
    · exact hkeepW _ _ ((Below.refl _ _).drew) hS0
    (refine wpAnyH_take (i := 0) (v := ?vaW0) (by simp only [List.getElem?_toArray, List.getElem?_cons_zero]; rfl) (by kernel_rfl) (by kernel_rfl) (by kernel_rfl) (fun _ _ _ h => h) (Or.inl ⟨by rfl, ?hyaW0⟩) (by assumption) ?restaW0; case hyaW0 => ((intro w' hSw); (try dsimp only at hSw); go_simp; (try with_reducible rfl)); try go_frame)
    (refine wpAnyH_take (i := 1) (v := ?vaW1) (by simp only [List.getElem?_toArray, List.getElem?_cons_succ, List.getElem?_cons_zero]; rfl) (by kernel_rfl) (by kernel_rfl) (by kernel_rfl) (fun _ _ _ h => h) (Or.inl ⟨by rfl, ?hyaW1⟩) (by assumption) ?restaW1; case hyaW1 => ((intro w' hSw); (try dsimp only at hSw); go_simp; (try with_reducible rfl)); try go_frame)
    (refine wpAnyH_take (i := 2) (v := ?vaW2) (by simp only [List.getElem?_toArray, List.getElem?_cons_succ, List.getElem?_cons_zero]; rfl) (by kernel_rfl) (by kernel_rfl) (by kernel_rfl) (fun _ _ _ h => h) (Or.inl ⟨by rfl, ?hyaW2⟩) (by assumption) ?restaW2; case hyaW2 => ((intro w' hSw); (try dsimp only at hSw); go_simp; (try with_reducible rfl)); try go_frame)
    refine wpAnyH_ready (rs := [3]) (by kernel_rfl) (by simp) ?_
    refine AllReadyH.cons (by simp only [List.getElem?_toArray, List.getElem?_cons_succ, List.getElem?_cons_zero]; rfl) (fun K hK => ?_) AllReadyH.nil
    first | (go_at_call 12; refine (hoS _ (HFT.out.below (hBelW _ (by assumption)))).mono ?_; rintro e wN ⟨vN, rfl, hownN, hbN⟩; obtain ⟨aN, cN, rfl⟩ := own_formT hownN; have hFN := own_Fs hownN; clear hownN) | (go_simp; (go_at_call 12; refine (hoS _ (HFT.out.below (hBelW _ (by assumption)))).mono ?_; rintro e wN ⟨vN, rfl, hownN, hbN⟩; obtain ⟨aN, cN, rfl⟩ := own_formT hownN; have hFN := own_Fs hownN; clear hownN))
    try (go_wp2_with fail)
    refine hK.out _ _ ?_ (fun hHeld => ?_)
    · (try dsimp only); exact hkeepW _ _ hbN (by assumption)
    clear hK K
    try go_frame
    refine wpAnyH_ready (rs := [4]) (by kernel_rfl) (by simp) ?_
    refine AllReadyH.cons (by simp only [List.getElem?_toArray, List.getElem?_cons_succ, List.getElem?_cons_zero]; rfl) (fun K hK => ?_) AllReadyH.nil
    first | (go_at_call 11; refine (lkTable_same xs ax aN cx cN mx _ (HFX.out.below (hBelW _ (by assumption))) hFN (by omega)).mono ?_; clear hFN; rintro e wN ⟨rfl, hbN⟩) | (go_simp; (go_at_call 11; refine (lkTable_same xs ax aN cx cN mx _ (HFX.out.below (hBelW _ (by assumption))) hFN (by omega)).mono ?_; clear hFN; rintro e wN ⟨rfl, hbN⟩))
    try (go_wp2_with fail)
    refine hK.out _ _ ?_ (fun hHeld => ?_)
    · (try dsimp only); exact hkeepW _ _ hbN (by assumption)
    clear hK K
    try go_frame
    (refine wpAnyH_take (i := 5) (v := ?vaW5) (by simp only [List.getElem?_toArray, List.getElem?_cons_succ, List.getElem?_cons_zero]; rfl) (by kernel_rfl) (by kernel_rfl) (by kernel_rfl) (fun _ _ _ h => h) (Or.inl ⟨by rfl, ?hyaW5⟩) (by assumption) ?restaW5; case hyaW5 => ((intro w' hSw); (try dsimp only at hSw); go_simp; (try with_reducible rfl)); try go_frame)
    (refine wpAnyH_take (i := 6) (v := ?vaW6) (by simp only [List.getElem?_toArray, List.getElem?_cons_succ, List.getElem?_cons_zero]; rfl) (by kernel_rfl) (by kernel_rfl) (by kernel_rfl) (fun _ _ _ h => h) (Or.inl ⟨by rfl, ?hyaW6⟩) (by assumption) ?restaW6; case hyaW6 => ((intro w' hSw); (try dsimp only at hSw); go_simp; (try with_reducible rfl)); try go_frame)
    (refine wpAnyH_take (i := 7) (v := ?vaW7) (by simp only [List.getElem?_toArray, List.getElem?_cons_succ, List.getElem?_cons_zero]; rfl) (by kernel_rfl) (by kernel_rfl) (by kernel_rfl) (fun _ _ _ h => h) (Or.inl ⟨by rfl, ?hyaW7⟩) (by assumption) ?restaW7; case hyaW7 => ((intro w' hSw); (try dsimp only at hSw); go_simp; (try with_reducible rfl)); try go_frame)
    refine wpAnyH_ready (rs := [8]) (by kernel_rfl) (by simp) ?_
    refine AllReadyH.cons (by simp only [List.getElem?_toArray, List.getElem?_cons_succ, List.getElem?_cons_zero]; rfl) (fun K hK => ?_) AllReadyH.nil
    first | (go_at_call 13; refine (hoT _ (HFT.out.below (hBelW _ (by assumption)))).mono ?_; clear hoT; rintro e wN ⟨rfl, hbN⟩) | (go_simp; (go_at_call 13; refine (hoT _ (HFT.out.below (hBelW _ (by assumption)))).mono ?_; clear hoT; rintro e wN ⟨rfl, hbN⟩))
    try (go_wp2_with fail)
    refine hK.out _ _ ?_ (fun hHeld => ?_)
    · (try dsimp only); exact hkeepW _ _ hbN (by assumption)
    clear hK K
    try go_frame
    (refine wpAnyH_take (i := 9) (v := ?vaW9) (by simp only [List.getElem?_toArray, List.getElem?_cons_succ, List.getElem?_cons_zero]; rfl) (by kernel_rfl) (by kernel_rfl) (by kernel_rfl) (fun _ _ _ h => h) (Or.inl ⟨by rfl, ?hyaW9⟩) (by assumption) ?restaW9; case hyaW9 => ((intro w' hSw); (try dsimp only at hSw); go_simp; (try with_reducible rfl)); try go_frame)
    (refine wpAnyH_take (i := 10) (v := ?vaW10) (by simp only [List.getElem?_toArray, List.getElem?_cons_succ, List.getElem?_cons_zero]; rfl) (by kernel_rfl) (by kernel_rfl) (by kernel_rfl) (fun _ _ _ h => h) (Or.inl ⟨by rfl, ?hyaW10⟩) (by assumption) ?restaW10; case hyaW10 => ((intro w' hSw); (try dsimp only at hSw); go_simp; (try with_reducible rfl)); try go_frame)
    (refine wpAnyH_take (i := 11) (v := ?vaW11) (by simp only [List.getElem?_toArray, List.getElem?_cons_succ, List.getElem?_cons_zero]; rfl) (by kernel_rfl) (by kernel_rfl) (by kernel_rfl) (fun _ _ _ h => h) (Or.inl ⟨by rfl, ?hyaW11⟩) (by assumption) ?restaW11; case hyaW11 => ((intro w' hSw); (try dsimp only at hSw); go_simp; (try with_reducible rfl)); try go_frame)
    (refine wpAnyH_take (i := 12) (v := undef) (by simp only [List.getElem?_toArray, List.getElem?_cons_succ, List.getElem?_cons_zero]; rfl) (by kernel_rfl) (by kernel_rfl) (by kernel_rfl) (fun _ _ _ h => h) (Or.inr ⟨by rfl, rfl⟩) (by assumption) ?_; try go_frame)
    (refine wpAnyH_take (i := 13) (v := undef) (by simp only [List.getElem?_toArray, List.getElem?_cons_succ, List.getElem?_cons_zero]; rfl) (by kernel_rfl) (by kernel_rfl) (by kernel_rfl) (fun _ _ _ h => h) (Or.inr ⟨by rfl, rfl⟩) (by assumption) ?_; try go_frame)
    (refine wpAnyH_take (i := 14) (v := ?vaW14) (by simp only [List.getElem?_toArray, List.getElem?_cons_succ, List.getElem?_cons_zero]; rfl) (by kernel_rfl) (by kernel_rfl) (by kernel_rfl) (fun _ _ _ h => h) (Or.inl ⟨by rfl, ?hyaW14⟩) (by assumption) ?restaW14; case hyaW14 => ((intro w' hSw); (try dsimp only at hSw); go_simp; (try with_reducible rfl)); try go_frame)
    (refine wpAnyH_take (i := 15) (v := ?vaW15) (by simp only [List.getElem?_toArray, List.getElem?_cons_succ, List.getElem?_cons_zero]; rfl) (by kernel_rfl) (by kernel_rfl) (by kernel_rfl) (fun _ _ _ h => h) (Or.inl ⟨by rfl, ?hyaW15⟩) (by assumption) ?restaW15; case hyaW15 => ((intro w' hSw); (try dsimp only at hSw); go_simp; (try with_reducible rfl)); try go_frame)
    (refine wpAnyH_take (i := 16) (v := undef) (by simp only [List.getElem?_toArray, List.getElem?_cons_succ, List.getElem?_cons_zero]; rfl) (by kernel_rfl) (by kernel_rfl) (by kernel_rfl) (fun _ _ _ h => h) (Or.inr ⟨by rfl, rfl⟩) (by assumption) ?_; try go_frame)
    (refine wpAnyH_take (i := 17) (v := undef) (by simp only [List.getElem?_toArray, List.getElem?_cons_succ, List.getElem?_cons_zero]; rfl) (by kernel_rfl) (by kernel_rfl) (by kernel_rfl) (fun _ _ _ h => h) (Or.inr ⟨by rfl, rfl⟩) (by assumption) ?_; try go_frame)
    (refine wpAnyH_take (i := 18) (v := ?vaW18) (by simp only [List.getElem?_toArray, List.getElem?_cons_succ, List.getElem?_cons_zero]; rfl) (by kernel_rfl) (by kernel_rfl) (by kernel_rfl) (fun _ _ _ h => h) (Or.inl ⟨by rfl, ?hyaW18⟩) (by assumption) ?restaW18; case hyaW18 => ((intro w' hSw); (try dsimp only at hSw); go_simp; (try with_reducible rfl)); try go_frame)
    refine wpAnyH_done (by kernel_rfl) ?_ _
    refine NoPanic.normal ?_
    have hS1 : wN.cell? ⟨wa.heap.size, 0, none⟩ = some (.slice a' fs.length c') ∧ wN.cell? ⟨wa.heap.size, 1, none⟩ = some (.int .i64 max) ∧ wN.cell? ⟨wb.heap.size, 0, none⟩ = some (.slice ax xs.length cx) ∧ wN.cell? ⟨wb.heap.size, 1, none⟩ = some (.int .i64 mx) ∧ Below W.heap.size W wN := by first | assumption | exact hkeepW _ _ hbN (by assumption)
    clear hS0
    go_wp2
    go_region_held3 (fun w' => w'.cell? ⟨wa.heap.size, 0, none⟩ = some (.slice a' fs.length c') ∧ w'.cell? ⟨wa.heap.size, 1, none⟩ = some (.int .i64 max) ∧ w'.cell? ⟨wb.heap.size, 0, none⟩ = some (.slice ax xs.length cx) ∧ w'.cell? ⟨wb.heap.size, 1, none⟩ = some (.int .i64 mx) ∧ Below W.heap.size W w') (first | assumption | exact hkeepW _ _ ((Below.refl _ _).drew) hS1 | exact hkeepW _ _ hbN (by assumption)) ((first | (go_at_call 12; refine (hoS _ (HFT.out.below (hBelW _ (by assumption)))).mono ?_; rintro e wN ⟨vN, rfl, hownN, hbN⟩; obtain ⟨aN, cN, rfl⟩ := own_formT hownN; have hFN := own_Fs hownN; clear hownN) | (go_at_call 11; refine (lkTable_same xs ax aN cx cN mx _ (HFX.out.below (hBelW _ (by assumption))) hFN (by omega)).mono ?_; clear hFN; rintro e wN ⟨rfl, hbN⟩)))
    go_wp2
    go_ret
    exact ⟨rfl, bt' hBW (hBelW _ (by first | assumption | exact hkeepW _ _ hbN (by assumption)))⟩
  | true =>
    rw [ht] at hoT
    by_cases hlo : most < 0
    · clear ht
      refine wp_region_noPanic ?_
      refine wp_region_held_drew (S := fun w' => w'.cell? ⟨wa.heap.size, 0, none⟩ = some (.slice a' fs.length c') ∧ w'.cell? ⟨wa.heap.size, 1, none⟩ = some (.int .i64 max) ∧ w'.cell? ⟨wb.heap.size, 0, none⟩ = some (.slice ax xs.length cx) ∧ w'.cell? ⟨wb.heap.size, 1, none⟩ = some (.int .i64 mx) ∧ Below W.heap.size W w') (by kernel_rfl) ?_ (fun hHeld => ?_)
      · exact hkeepW _ _ ((Below.refl _ _).drew) hS0
      (refine wpAnyH_take (i := 0) (v := ?vbW0) (by simp only [List.getElem?_toArray, List.getElem?_cons_zero]; rfl) (by kernel_rfl) (by kernel_rfl) (by kernel_rfl) (fun _ _ _ h => h) (Or.inl ⟨by rfl, ?hybW0⟩) (by assumption) ?restbW0; case hybW0 => ((intro w' hSw); (try dsimp only at hSw); go_simp; (try with_reducible rfl)); try go_frame)
      (refine wpAnyH_take (i := 1) (v := ?vbW1) (by simp only [List.getElem?_toArray, List.getElem?_cons_succ, List.getElem?_cons_zero]; rfl) (by kernel_rfl) (by kernel_rfl) (by kernel_rfl) (fun _ _ _ h => h) (Or.inl ⟨by rfl, ?hybW1⟩) (by assumption) ?restbW1; case hybW1 => ((intro w' hSw); (try dsimp only at hSw); go_simp; (try with_reducible rfl)); try go_frame)
      (refine wpAnyH_take (i := 2) (v := ?vbW2) (by simp only [List.getElem?_toArray, List.getElem?_cons_succ, List.getElem?_cons_zero]; rfl) (by kernel_rfl) (by kernel_rfl) (by kernel_rfl) (fun _ _ _ h => h) (Or.inl ⟨by rfl, ?hybW2⟩) (by assumption) ?restbW2; case hybW2 => ((intro w' hSw); (try dsimp only at hSw); go_simp; (try with_reducible rfl)); try go_frame)
      refine wpAnyH_ready (rs := [3]) (by kernel_rfl) (by simp) ?_
      refine AllReadyH.cons (by simp only [List.getElem?_toArray, List.getElem?_cons_succ, List.getElem?_cons_zero]; rfl) (fun K hK => ?_) AllReadyH.nil
      first | (go_at_call 12; refine (hoS _ (HFT.out.below (hBelW _ (by assumption)))).mono ?_; rintro e wN ⟨vN, rfl, hownN, hbN⟩; obtain ⟨aN, cN, rfl⟩ := own_formT hownN; have hFN := own_Fs hownN; clear hownN) | (go_simp; (go_at_call 12; refine (hoS _ (HFT.out.below (hBelW _ (by assumption)))).mono ?_; rintro e wN ⟨vN, rfl, hownN, hbN⟩; obtain ⟨aN, cN, rfl⟩ := own_formT hownN; have hFN := own_Fs hownN; clear hownN))
      try (go_wp2_with fail)
      refine hK.out _ _ ?_ (fun hHeld => ?_)
      · (try dsimp only); exact hkeepW _ _ hbN (by assumption)
      clear hK K
      try go_frame
      refine wpAnyH_ready (rs := [4]) (by kernel_rfl) (by simp) ?_
      refine AllReadyH.cons (by simp only [List.getElem?_toArray, List.getElem?_cons_succ, List.getElem?_cons_zero]; rfl) (fun K hK => ?_) AllReadyH.nil
      first | (go_at_call 11; refine (lkTable_same xs ax aN cx cN mx _ (HFX.out.below (hBelW _ (by assumption))) hFN (by omega)).mono ?_; clear hFN; rintro e wN ⟨rfl, hbN⟩) | (go_simp; (go_at_call 11; refine (lkTable_same xs ax aN cx cN mx _ (HFX.out.below (hBelW _ (by assumption))) hFN (by omega)).mono ?_; clear hFN; rintro e wN ⟨rfl, hbN⟩))
      try (go_wp2_with fail)
      refine hK.out _ _ ?_ (fun hHeld => ?_)
      · (try dsimp only); exact hkeepW _ _ hbN (by assumption)
      clear hK K
      try go_frame
      (refine wpAnyH_take (i := 5) (v := ?vbW5) (by simp only [List.getElem?_toArray, List.getElem?_cons_succ, List.getElem?_cons_zero]; rfl) (by kernel_rfl) (by kernel_rfl) (by kernel_rfl) (fun _ _ _ h => h) (Or.inl ⟨by rfl, ?hybW5⟩) (by assumption) ?restbW5; case hybW5 => ((intro w' hSw); (try dsimp only at hSw); go_simp; (try with_reducible rfl)); try go_frame)
      (refine wpAnyH_take (i := 6) (v := ?vbW6) (by simp only [List.getElem?_toArray, List.getElem?_cons_succ, List.getElem?_cons_zero]; rfl) (by kernel_rfl) (by kernel_rfl) (by kernel_rfl) (fun _ _ _ h => h) (Or.inl ⟨by rfl, ?hybW6⟩) (by assumption) ?restbW6; case hybW6 => ((intro w' hSw); (try dsimp only at hSw); go_simp; (try with_reducible rfl)); try go_frame)
      (refine wpAnyH_take (i := 7) (v := ?vbW7) (by simp only [List.getElem?_toArray, List.getElem?_cons_succ, List.getElem?_cons_zero]; rfl) (by kernel_rfl) (by kernel_rfl) (by kernel_rfl) (fun _ _ _ h => h) (Or.inl ⟨by rfl, ?hybW7⟩) (by assumption) ?restbW7; case hybW7 => ((intro w' hSw); (try dsimp only at hSw); go_simp; (try with_reducible rfl)); try go_frame)
      refine wpAnyH_ready (rs := [8]) (by kernel_rfl) (by simp) ?_
      refine AllReadyH.cons (by simp only [List.getElem?_toArray, List.getElem?_cons_succ, List.getElem?_cons_zero]; rfl) (fun K hK => ?_) AllReadyH.nil
      first | (go_at_call 13; refine (hoT _ (HFT.out.below (hBelW _ (by assumption)))).mono ?_; clear hoT; rintro e wN ⟨rfl, hbN⟩) | (go_simp; (go_at_call 13; refine (hoT _ (HFT.out.below (hBelW _ (by assumption)))).mono ?_; clear hoT; rintro e wN ⟨rfl, hbN⟩))
      try (go_wp2_with fail)
      refine hK.out _ _ ?_ (fun hHeld => ?_)
      · (try dsimp only); exact hkeepW _ _ hbN (by assumption)
      clear hK K
      try go_frame
      (refine wpAnyH_take (i := 9) (v := ?vbW9) (by simp only [List.getElem?_toArray, List.getElem?_cons_succ, List.getElem?_cons_zero]; rfl) (by kernel_rfl) (by kernel_rfl) (by kernel_rfl) (fun _ _ _ h => h) (Or.inl ⟨by rfl, ?hybW9⟩) (by assumption) ?restbW9; case hybW9 => ((intro w' hSw); (try dsimp only at hSw); go_simp; (try with_reducible rfl)); try go_frame)
      (refine wpAnyH_take (i := 10) (v := ?vbW10) (by simp only [List.getElem?_toArray, List.getElem?_cons_succ, List.getElem?_cons_zero]; rfl) (by kernel_rfl) (by kernel_rfl) (by kernel_rfl) (fun _ _ _ h => h) (Or.inl ⟨by rfl, ?hybW10⟩) (by assumption) ?restbW10; case hybW10 => ((intro w' hSw); (try dsimp only at hSw); go_simp; (try with_reducible rfl)); try go_frame)
      (refine wpAnyH_take (i := 11) (v := ?vbW11) (by simp only [List.getElem?_toArray, List.getElem?_cons_succ, List.getElem?_cons_zero]; rfl) (by kernel_rfl) (by kernel_rfl) (by kernel_rfl) (fun _ _ _ h => h) (Or.inl ⟨by rfl, ?hybW11⟩) (by assumption) ?restbW11; case hybW11 => ((intro w' hSw); (try dsimp only at hSw); go_simp; (try with_reducible rfl)); try go_frame)
      (refine wpAnyH_take (i := 12) (v := ?vbW12) (by simp only [List.getElem?_toArray, List.getElem?_cons_succ, List.getElem?_cons_zero]; rfl) (by kernel_rfl) (by kernel_rfl) (by kernel_rfl) (fun _ _ _ h => h) (Or.inl ⟨by rfl, ?hybW12⟩) (by assumption) ?restbW12; case hybW12 => ((intro w' hSw); (try dsimp only at hSw); go_simp; (try with_reducible rfl)); try go_frame)
      (refine wpAnyH_take (i := 13) (v := ?vbW13) (by simp only [List.getElem?_toArray, List.getElem?_cons_succ, List.getElem?_cons_zero]; rfl) (by kernel_rfl) (by kernel_rfl) (by kernel_rfl) (fun _ _ _ h => h) (Or.inl ⟨by rfl, ?hybW13⟩) (by assumption) ?restbW13; case hybW13 => ((intro w' hSw); (try dsimp only at hSw); go_simp; (try with_reducible rfl)); try go_frame)
      (refine wpAnyH_take (i := 14) (v := ?vbW14) (by simp only [List.getElem?_toArray, List.getElem?_cons_succ, List.getElem?_cons_zero]; rfl) (by kernel_rfl) (by kernel_rfl) (by kernel_rfl) (fun _ _ _ h => h) (Or.inl ⟨by rfl, ?hybW14⟩) (by assumption) ?restbW14; case hybW14 => ((intro w' hSw); (try dsimp only at hSw); go_simp; (try with_reducible rfl)); try go_frame)
      (refine wpAnyH_take (i := 15) (v := ?vbW15) (by simp only [List.getElem?_toArray, List.getElem?_cons_succ, List.getElem?_cons_zero]; rfl) (by kernel_rfl) (by kernel_rfl) (by kernel_rfl) (fun _ _ _ h => h) (Or.inl ⟨by rfl, ?hybW15⟩) (by assumption) ?restbW15; case hybW15 => ((intro w' hSw); (try dsimp only at hSw); go_simp; (try with_reducible rfl)); try go_frame)
      (refine wpAnyH_take (i := 16) (v := undef) (by simp only [List.getElem?_toArray, List.getElem?_cons_succ, List.getElem?_cons_zero]; rfl) (by kernel_rfl) (by kernel_rfl) (by kernel_rfl) (fun _ _ _ h => h) (Or.inr ⟨by rfl, rfl⟩) (by assumption) ?_; try go_frame)
      (refine wpAnyH_take (i := 17) (v := undef) (by simp only [List.getElem?_toArray, List.getElem?_cons_succ, List.getElem?_cons_zero]; rfl) (by kernel_rfl) (by kernel_rfl) (by kernel_rfl) (fun _ _ _ h => h) (Or.inr ⟨by rfl, rfl⟩) (by assumption) ?_; try go_frame)
      (refine wpAnyH_take (i := 18) (v := ?vbW18) (by simp only [List.getElem?_toArray, List.getElem?_cons_succ, List.getElem?_cons_zero]; rfl) (by kernel_rfl) (by kernel_rfl) (by kernel_rfl) (fun _ _ _ h => h) (Or.inl ⟨by rfl, ?hybW18⟩) (by assumption) ?restbW18; case hybW18 => ((intro w' hSw); (try dsimp only at hSw); go_simp; (try with_reducible rfl)); try go_frame)
      refine wpAnyH_done (by kernel_rfl) ?_ _
      refine NoPanic.normal ?_
      have hS1 : wN.cell? ⟨wa.heap.size, 0, none⟩ = some (.slice a' fs.length c') ∧ wN.cell? ⟨wa.heap.size, 1, none⟩ = some (.int .i64 max) ∧ wN.cell? ⟨wb.heap.size, 0, none⟩ = some (.slice ax xs.length cx) ∧ wN.cell? ⟨wb.heap.size, 1, none⟩ = some (.int .i64 mx) ∧ Below W.heap.size W wN := by first | assumption | exact hkeepW _ _ hbN (by assumption)
      clear hS0
      go_wp2
      go_region_held3 (fun w' => w'.cell? ⟨wa.heap.size, 0, none⟩ = some (.slice a' fs.length c') ∧ w'.cell? ⟨wa.heap.size, 1, none⟩ = some (.int .i64 max) ∧ w'.cell? ⟨wb.heap.size, 0, none⟩ = some (.slice ax xs.length cx) ∧ w'.cell? ⟨wb.heap.size, 1, none⟩ = some (.int .i64 mx) ∧ Below W.heap.size W w') (first | assumption | exact hkeepW _ _ ((Below.refl _ _).drew) hS1 | exact hkeepW _ _ hbN (by assumption)) ((first | (go_at_call 12; refine (hoS _ (HFT.out.below (hBelW _ (by assumption)))).mono ?_; rintro e wN ⟨vN, rfl, hownN, hbN⟩; obtain ⟨aN, cN, rfl⟩ := own_formT hownN; have hFN := own_Fs hownN; clear hownN) | (go_at_call 11; refine (lkTable_same xs ax aN cx cN mx _ (HFX.out.below (hBelW _ (by assumption))) hFN (by omega)).mono ?_; clear hFN; rintro e wN ⟨rfl, hbN⟩)))
      go_wp2
      go_ret
      exact ⟨rfl, bt' hBW (hBelW _ (by first | assumption | exact hkeepW _ _ hbN (by assumption)))⟩
    · have hlo' : 0 ≤ most := by omega
      have hdl : decide (most < 0) = false := by simpa using hlo'
      by_cases hhi : 64 < most
      · clear ht
        go_region_held3 (fun w' => w'.cell? ⟨wa.heap.size, 0, none⟩ = some (.slice a' fs.length c') ∧ w'.cell? ⟨wa.heap.size, 1, none⟩ = some (.int .i64 max) ∧ w'.cell? ⟨wb.heap.size, 0, none⟩ = some (.slice ax xs.length cx) ∧ w'.cell? ⟨wb.heap.size, 1, none⟩ = some (.int .i64 mx) ∧ Below W.heap.size W w') (first | assumption | exact hkeepW _ _ ((Below.refl _ _).drew) hS0 | exact hkeepW _ _ hbN (by assumption)) ((first | (go_at_call 12; refine (hoS _ (HFT.out.below (hBelW _ (by assumption)))).mono ?_; rintro e wN ⟨vN, rfl, hownN, hbN⟩; obtain ⟨aN, cN, rfl⟩ := own_formT hownN; have hFN := own_Fs hownN; clear hownN) | (go_at_call 11; refine (lkTable_same xs ax aN cx cN mx _ (HFX.out.below (hBelW _ (by assumption))) hFN (by omega)).mono ?_; clear hFN; rintro e wN ⟨rfl, hbN⟩) | (go_at_call 13; refine (hoT _ (HFT.out.below (hBelW _ (by assumption)))).mono ?_; clear hoT; rintro e wN ⟨rfl, hbN⟩)))
        have hS1 : wN.cell? ⟨wa.heap.size, 0, none⟩ = some (.slice a' fs.length c') ∧ wN.cell? ⟨wa.heap.size, 1, none⟩ = some (.int .i64 max) ∧ wN.cell? ⟨wb.heap.size, 0, none⟩ = some (.slice ax xs.length cx) ∧ wN.cell? ⟨wb.heap.size, 1, none⟩ = some (.int .i64 mx) ∧ Below W.heap.size W wN := by first | assumption | exact hkeepW _ _ hbN (by assumption)
        clear hS0
        go_wp2
        go_region_held3 (fun w' => w'.cell? ⟨wa.heap.size, 0, none⟩ = some (.slice a' fs.length c') ∧ w'.cell? ⟨wa.heap.size, 1, none⟩ = some (.int .i64 max) ∧ w'.cell? ⟨wb.heap.size, 0, none⟩ = some (.slice ax xs.length cx) ∧ w'.cell? ⟨wb.heap.size, 1, none⟩ = some (.int .i64 mx) ∧ Below W.heap.size W w') (first | assumption | exact hkeepW _ _ ((Below.refl _ _).drew) hS1 | exact hkeepW _ _ hbN (by assumption)) ((first | (go_at_call 12; refine (hoS _ (HFT.out.below (hBelW _ (by assumption)))).mono ?_; rintro e wN ⟨vN, rfl, hownN, hbN⟩; obtain ⟨aN, cN, rfl⟩ := own_formT hownN; have hFN := own_Fs hownN; clear hownN) | (go_at_call 11; refine (lkTable_same xs ax aN cx cN mx _ (HFX.out.below (hBelW _ (by assumption))) hFN (by omega)).mono ?_; clear hFN; rintro e wN ⟨rfl, hbN⟩)))
        go_wp2
        go_ret
        exact ⟨rfl, bt' hBW (hBelW _ (by first | assumption | exact hkeepW _ _ hbN (by assumption)))⟩
      · have hhi' : most ≤ 64 := by omega
        have hdh : decide (64 < most) = false := by simpa using hhi'
        have HT : Hid (tOk fs max = true) := ht
        clear ht
        go_region_held3 (fun w' => w'.cell? ⟨wa.heap.size, 0, none⟩ = some (.slice a' fs.length c') ∧ w'.cell? ⟨wa.heap.size, 1, none⟩ = some (.int .i64 max) ∧ w'.cell? ⟨wb.heap.size, 0, none⟩ = some (.slice ax xs.length cx) ∧ w'.cell? ⟨wb.heap.size, 1, none⟩ = some (.int .i64 mx) ∧ Below W.heap.size W w') (first | assumption | exact hkeepW _ _ ((Below.refl _ _).drew) hS0 | exact hkeepW _ _ hbN (by assumption)) ((first | (go_at_call 12; refine (hoS _ (HFT.out.below (hBelW _ (by assumption)))).mono ?_; rintro e wN ⟨vN, rfl, hownN, hbN⟩; obtain ⟨aN, cN, rfl⟩ := own_formT hownN; have hFN := own_Fs hownN; clear hownN) | (go_at_call 11; refine (lkTable_same xs ax aN cx cN mx _ (HFX.out.below (hBelW _ (by assumption))) hFN (by omega)).mono ?_; clear hFN; rintro e wN ⟨rfl, hbN⟩) | (go_at_call 13; refine (hoT _ (HFT.out.below (hBelW _ (by assumption)))).mono ?_; clear hoT; rintro e wN ⟨rfl, hbN⟩)))
        have hS1 : wN.cell? ⟨wa.heap.size, 0, none⟩ = some (.slice a' fs.length c') ∧ wN.cell? ⟨wa.heap.size, 1, none⟩ = some (.int .i64 max) ∧ wN.cell? ⟨wb.heap.size, 0, none⟩ = some (.slice ax xs.length cx) ∧ wN.cell? ⟨wb.heap.size, 1, none⟩ = some (.int .i64 mx) ∧ Below W.heap.size W wN := by first | assumption | exact hkeepW _ _ hbN (by assumption)
        clear hS0
        go_wp2
        have hV := HX.out
        rw [limV_ok HT.out hlo' hhi'] at hV
        injection hV with hV1 hV2
        subst hV2
        obtain ⟨hR1, hR2, hR3, hR4⟩ := lim_fits HT.out hlo' hhi'
        have hR0 := fitL_take most fs
        rw [hV1] at hR0 hR1 hR2 hR3
        simp only [hV1] at hR4
        have HGR : Hid (∀ (hj : xs.length < fs.length), most < fSum xs + fLen fs[xs.length]) := hR4
        have HTX : Hid (tOk xs most = true) := hR2
        have HXT : Hid (xs = fs.take xs.length) := hR0
        have hsmx : fsSm xs := by
          rw [hR0]
          intro y hy
          exact HSM.out y (List.mem_of_mem_take hy)
        have HSX : Hid (fsSm xs) := hsmx
        have HFV : Hid _ := HFT.out
        have hup := fun W => HFT.out.upto xs.length (xs.length : Int) rfl hR1 W
        have hlf := fun (w' : World) (hb : Below W.heap.size W w') => lkFields_any xs (fs.take xs.length) ax a' xs.length cx xs.length c' w' (HFX.out.below hb) ((HFT.out.below hb).take xs.length hR1) (by omega) (by omega)
        rw [← HXT.out, eqFs_self] at hlf
        have htx := fun (w' : World) (hb : Below W.heap.size W w') => implTableOk xs ax xs.length cx most w' (HFX.out.below hb) HSX.out.bd (by omega)
        rw [HTX.out] at htx
        have htz := fun (w' : World) (hb : Below W.heap.size W w') => implTableSize xs ax xs.length cx most w' (HFX.out.below hb) HSX.out.bd (by omega)
        rw [HTX.out, if_pos rfl] at htz
        have hlm := fun (w' : World) (hb : Below W.heap.size W w') => implTableLimit xs ax xs.length cx most most w' (HFX.out.below hb) HSX.out.bd (by omega)
        rw [limV_ok HTX.out hlo' hhi', hR3] at hlm
        have hl64 := fun (w' : World) (hb : Below W.heap.size W w') => implTableLimit fs a' fs.length c' max 64 w' (HFT.out.below hb) HSM.out.bd (by omega)
        rw [limV_ok HT.out (by decide) (by decide), fitL_all (by have := tOk_parts HT.out; omega)] at hl64
        unfold TabAns at hlm hl64
        simp only at hlm hl64
        have hd1 : decide ((fs.length : Int) < (xs.length : Int)) = false := by simp; omega
        have hd2 : (xs.length : Int) ≤ fs.length := by omega
        have hd3 : ¬ fs.length < xs.length := by omega
        clear hR0 hR2 hR3 hR4 hV1 hsmx hoS HX
        obtain ⟨q0, q1, q5, q6, qB⟩ := id hS1
        clear qB
        go_region_held3 (fun w' => w'.cell? ⟨wa.heap.size, 0, none⟩ = some (.slice a' fs.length c') ∧ w'.cell? ⟨wa.heap.size, 1, none⟩ = some (.int .i64 max) ∧ w'.cell? ⟨wb.heap.size, 0, none⟩ = some (.slice ax xs.length cx) ∧ w'.cell? ⟨wb.heap.size, 1, none⟩ = some (.int .i64 most) ∧ Below W.heap.size W w') (first | assumption | exact hkeepW _ _ ((Below.refl _ _).drew) hS1 | exact hkeepW _ _ hbN (by assumption)) ((first | (go_at_call 14; refine (hlf _ (hBelW _ (by assumption))).mono ?_; clear hlf; rintro e wN ⟨rfl, hbN⟩) | (go_at_call 15; refine (htx _ (hBelW _ (by assumption))).mono ?_; clear htx; rintro e wN ⟨rfl, hbN⟩) | (go_at_call 10; refine (hlm _ (hBelW _ (by assumption))).mono ?_; clear hlm; rintro e wN ⟨vN, rfl, hownN, hbN⟩; obtain ⟨aN, cN, rfl⟩ := own_formT hownN; have hFN := own_Fs hownN; clear hownN) | (go_at_call 11; refine (lkTable_same xs aN ax cN cx most _ hFN (HFX.out.below (hBelW _ (by assumption))) (by omega)).mono ?_; clear hFN; rintro e wN ⟨rfl, hbN⟩)))
        have hS2 : wN.cell? ⟨wa.heap.size, 0, none⟩ = some (.slice a' fs.length c') ∧ wN.cell? ⟨wa.heap.size, 1, none⟩ = some (.int .i64 max) ∧ wN.cell? ⟨wb.heap.size, 0, none⟩ = some (.slice ax xs.length cx) ∧ wN.cell? ⟨wb.heap.size, 1, none⟩ = some (.int .i64 most) ∧ Below W.heap.size W wN := by first | assumption | exact hkeepW _ _ hbN (by assumption)
        clear hS1
        have hfd := fun (v x : Value) (w : World) => field_tab v x w
        have hZ0 := fSum_nonneg xs
        have hZ1 : fSum xs ≤ most := (tOk_parts HTX.out).2.2.2
        by_cases hjl : xs.length = fs.length
        · have hdj : ((xs.length : Int) == (fs.length : Int)) = true := by rw [hjl]; simp
          have HJL : Hid (xs.length = fs.length) := hjl
          clear hjl hup q0 q1 q5 q6
          go_wp2
          refine wp_region_noPanic ?_
          refine wp_region_held_drew (S := fun w' => w'.cell? ⟨wa.heap.size, 0, none⟩ = some (.slice a' fs.length c') ∧ w'.cell? ⟨wa.heap.size, 1, none⟩ = some (.int .i64 max) ∧ w'.cell? ⟨wb.heap.size, 0, none⟩ = some (.slice ax xs.length cx) ∧ w'.cell? ⟨wb.heap.size, 1, none⟩ = some (.int .i64 most) ∧ Below W.heap.size W w') (by kernel_rfl) ?_ (fun hHeld => ?_)
          · exact hkeepW _ _ ((Below.refl _ _).drew) hS2
          (refine wpAnyH_take (i := 0) (v := ?veW0) (by simp only [List.getElem?_toArray, List.getElem?_cons_zero]; rfl) (by kernel_rfl) (by kernel_rfl) (by kernel_rfl) (fun _ _ _ h => h) (Or.inl ⟨by rfl, ?hyeW0⟩) (by assumption) ?resteW0; case hyeW0 => ((intro w' hSw); (try dsimp only at hSw); go_simp; (try with_reducible rfl)); try go_frame)
          (refine wpAnyH_take (i := 1) (v := ?veW1) (by simp only [List.getElem?_toArray, List.getElem?_cons_succ, List.getElem?_cons_zero]; rfl) (by kernel_rfl) (by kernel_rfl) (by kernel_rfl) (fun _ _ _ h => h) (Or.inl ⟨by rfl, ?hyeW1⟩) (by assumption) ?resteW1; case hyeW1 => ((intro w' hSw); (try dsimp only at hSw); go_simp; (try with_reducible rfl)); try go_frame)
          (refine wpAnyH_take (i := 2) (v := ?veW2) (by simp only [List.getElem?_toArray, List.getElem?_cons_succ, List.getElem?_cons_zero]; rfl) (by kernel_rfl) (by kernel_rfl) (by kernel_rfl) (fun _ _ _ h => h) (Or.inl ⟨by rfl, ?hyeW2⟩) (by assumption) ?resteW2; case hyeW2 => ((intro w' hSw); (try dsimp only at hSw); go_simp; (try with_reducible rfl)); try go_frame)
          (refine wpAnyH_take (i := 3) (v := ?veW3) (by simp only [List.getElem?_toArray, List.getElem?_cons_succ, List.getElem?_cons_zero]; rfl) (by kernel_rfl) (by kernel_rfl) (by kernel_rfl) (fun _ _ _ h => h) (Or.inl ⟨by rfl, ?hyeW3⟩) (by assumption) ?resteW3; case hyeW3 => ((intro w' hSw); (try dsimp only at hSw); go_simp; (try with_reducible rfl)); try go_frame)
          (refine wpAnyH_take (i := 4) (v := ?veW4) (by simp only [List.getElem?_toArray, List.getElem?_cons_succ, List.getElem?_cons_zero]; rfl) (by kernel_rfl) (by kernel_rfl) (by kernel_rfl) (fun _ _ _ h => h) (Or.inl ⟨by rfl, ?hyeW4⟩) (by assumption) ?resteW4; case hyeW4 => ((intro w' hSw); (try dsimp only at hSw); go_simp; (try with_reducible rfl)); try go_frame)
          (refine wpAnyH_take (i := 5) (v := ?veW5) (by simp only [List.getElem?_toArray, List.getElem?_cons_succ, List.getElem?_cons_zero]; rfl) (by kernel_rfl) (by kernel_rfl) (by kernel_rfl) (fun _ _ _ h => h) (Or.inl ⟨by rfl, ?hyeW5⟩) (by assumption) ?resteW5; case hyeW5 => ((intro w' hSw); (try dsimp only at hSw); go_simp; (try with_reducible rfl)); try go_frame)
          (refine wpAnyH_take (i := 6) (v := undef) (by simp only [List.getElem?_toArray, List.getElem?_cons_succ, List.getElem?_cons_zero]; rfl) (by kernel_rfl) (by kernel_rfl) (by kernel_rfl) (fun _ _ _ h => h) (Or.inr ⟨by rfl, rfl⟩) (by assumption) ?_; try go_frame)
          (refine wpAnyH_take (i := 7) (v := undef) (by simp only [List.getElem?_toArray, List.getElem?_cons_succ, List.getElem?_cons_zero]; rfl) (by kernel_rfl) (by kernel_rfl) (by kernel_rfl) (fun _ _ _ h => h) (Or.inr ⟨by rfl, rfl⟩) (by assumption) ?_; try go_frame)
          (refine wpAnyH_take (i := 8) (v := undef) (by simp only [List.getElem?_toArray, List.getElem?_cons_succ, List.getElem?_cons_zero]; rfl) (by kernel_rfl) (by kernel_rfl) (by kernel_rfl) (fun _ _ _ h => h) (Or.inr ⟨by rfl, rfl⟩) (by assumption) ?_; try go_frame)
          (refine wpAnyH_take (i := 9) (v := undef) (by simp only [List.getElem?_toArray, List.getElem?_cons_succ, List.getElem?_cons_zero]; rfl) (by kernel_rfl) (by kernel_rfl) (by kernel_rfl) (fun _ _ _ h => h) (Or.inr ⟨by rfl, rfl⟩) (by assumption) ?_; try go_frame)
          (refine wpAnyH_take (i := 10) (v := undef) (by simp only [List.getElem?_toArray, List.getElem?_cons_succ, List.getElem?_cons_zero]; rfl) (by kernel_rfl) (by kernel_rfl) (by kernel_rfl) (fun _ _ _ h => h) (Or.inr ⟨by rfl, rfl⟩) (by assumption) ?_; try go_frame)
          (refine wpAnyH_take (i := 11) (v := undef) (by simp only [List.getElem?_toArray, List.getElem?_cons_succ, List.getElem?_cons_zero]; rfl) (by kernel_rfl) (by kernel_rfl) (by kernel_rfl) (fun _ _ _ h => h) (Or.inr ⟨by rfl, rfl⟩) (by assumption) ?_; try go_frame)
          (refine wpAnyH_take (i := 12) (v := undef) (by simp only [List.getElem?_toArray, List.getElem?_cons_succ, List.getElem?_cons_zero]; rfl) (by kernel_rfl) (by kernel_rfl) (by kernel_rfl) (fun _ _ _ h => h) (Or.inr ⟨by rfl, rfl⟩) (by assumption) ?_; try go_frame)
          (refine wpAnyH_take (i := 13) (v := undef) (by simp only [List.getElem?_toArray, List.getElem?_cons_succ, List.getElem?_cons_zero]; rfl) (by kernel_rfl) (by kernel_rfl) (by kernel_rfl) (fun _ _ _ h => h) (Or.inr ⟨by rfl, rfl⟩) (by assumption) ?_; try go_frame)
          (refine wpAnyH_take (i := 14) (v := undef) (by simp only [List.getElem?_toArray, List.getElem?_cons_succ, List.getElem?_cons_zero]; rfl) (by kernel_rfl) (by kernel_rfl) (by kernel_rfl) (fun _ _ _ h => h) (Or.inr ⟨by rfl, rfl⟩) (by assumption) ?_; try go_frame)
          (refine wpAnyH_take (i := 15) (v := undef) (by simp only [List.getElem?_toArray, List.getElem?_cons_succ, List.getElem?_cons_zero]; rfl) (by kernel_rfl) (by kernel_rfl) (by kernel_rfl) (fun _ _ _ h => h) (Or.inr ⟨by rfl, rfl⟩) (by assumption) ?_; try go_frame)
          (refine wpAnyH_take (i := 16) (v := undef) (by simp only [List.getElem?_toArray, List.getElem?_cons_succ, List.getElem?_cons_zero]; rfl) (by kernel_rfl) (by kernel_rfl) (by kernel_rfl) (fun _ _ _ h => h) (Or.inr ⟨by rfl, rfl⟩) (by assumption) ?_; try go_frame)
          (refine wpAnyH_take (i := 17) (v := ?veW17) (by simp only [List.getElem?_toArray, List.getElem?_cons_succ, List.getElem?_cons_zero]; rfl) (by kernel_rfl) (by kernel_rfl) (by kernel_rfl) (fun _ _ _ h => h) (Or.inl ⟨by rfl, ?hyeW17⟩) (by assumption) ?resteW17; case hyeW17 => ((intro w' hSw); (try dsimp only at hSw); go_simp; (try with_reducible rfl)); try go_frame)
          (refine wpAnyH_take (i := 18) (v := ?veW18) (by simp only [List.getElem?_toArray, List.getElem?_cons_succ, List.getElem?_cons_zero]; rfl) (by kernel_rfl) (by kernel_rfl) (by kernel_rfl) (fun _ _ _ h => h) (Or.inl ⟨by rfl, ?hyeW18⟩) (by assumption) ?resteW18; case hyeW18 => ((intro w' hSw); (try dsimp only at hSw); go_simp; (try with_reducible rfl)); try go_frame)
          (refine wpAnyH_take (i := 19) (v := ?veW19) (by simp only [List.getElem?_toArray, List.getElem?_cons_succ, List.getElem?_cons_zero]; rfl) (by kernel_rfl) (by kernel_rfl) (by kernel_rfl) (fun _ _ _ h => h) (Or.inl ⟨by rfl, ?hyeW19⟩) (by assumption) ?resteW19; case hyeW19 => ((intro w' hSw); (try dsimp only at hSw); go_simp; (try with_reducible rfl)); try go_frame)
          (refine wpAnyH_take (i := 22) (v := ?veW22) (by simp only [List.getElem?_toArray, List.getElem?_cons_succ, List.getElem?_cons_zero]; rfl) (by kernel_rfl) (by kernel_rfl) (by kernel_rfl) (fun _ _ _ h => h) (Or.inl ⟨by rfl, ?hyeW22⟩) (by assumption) ?resteW22; case hyeW22 => ((intro w' hSw); (try dsimp only at hSw); go_simp; (try with_reducible rfl)); try go_frame)
          (refine wpAnyH_take (i := 23) (v := ?veW23) (by simp only [List.getElem?_toArray, List.getElem?_cons_succ, List.getElem?_cons_zero]; rfl) (by kernel_rfl) (by kernel_rfl) (by kernel_rfl) (fun _ _ _ h => h) (Or.inl ⟨by rfl, ?hyeW23⟩) (by assumption) ?resteW23; case hyeW23 => ((intro w' hSw); (try dsimp only at hSw); go_simp; (try with_reducible rfl)); try go_frame)
          refine wpAnyH_ready (rs := [20]) (by kernel_rfl) (by simp) ?_
          refine AllReadyH.cons (by simp only [List.getElem?_toArray, List.getElem?_cons_succ, List.getElem?_cons_zero]; rfl) (fun K hK => ?_) AllReadyH.nil
          first | (go_at_call 10; refine (hl64 _ (hBelW _ (by assumption))).mono ?_; clear hl64; rintro e wN ⟨vN, rfl, hownN, hbN⟩; obtain ⟨aN, cN, rfl⟩ := own_formT hownN; have hFN := own_Fs hownN; clear hownN) | (go_simp; (go_at_call 10; refine (hl64 _ (hBelW _ (by assumption))).mono ?_; clear hl64; rintro e wN ⟨vN, rfl, hownN, hbN⟩; obtain ⟨aN, cN, rfl⟩ := own_formT hownN; have hFN := own_Fs hownN; clear hownN))
          try (go_wp2_with fail)
          refine hK.out _ _ ?_ (fun hHeld => ?_)
          · (try dsimp only); exact hkeepW _ _ hbN (by assumption)
          clear hK K
          try go_frame
          (refine wpAnyH_take (i := 21) (v := ?veW21) (by simp only [List.getElem?_toArray, List.getElem?_cons_succ, List.getElem?_cons_zero]; rfl) (by kernel_rfl) (by kernel_rfl) (by kernel_rfl) (fun _ _ _ h => h) (Or.inl ⟨by rfl, ?hyeW21⟩) (by assumption) ?resteW21; case hyeW21 => ((intro w' hSw); (try dsimp only at hSw); go_simp; (try with_reducible rfl)); try go_frame)
          refine wpAnyH_ready (rs := [24]) (by kernel_rfl) (by simp) ?_
          refine AllReadyH.cons (by simp only [List.getElem?_toArray, List.getElem?_cons_succ, List.getElem?_cons_zero]; rfl) (fun K hK => ?_) AllReadyH.nil
          first | (go_at_call 14; refine (lkFields_same fs aN a' cN c' _ hFN (HFV.out.below (hBelW _ (by assumption))) (by omega)).mono ?_; clear hFN; rintro e wN ⟨rfl, hbN⟩) | (go_simp; (go_at_call 14; refine (lkFields_same fs aN a' cN c' _ hFN (HFV.out.below (hBelW _ (by assumption))) (by omega)).mono ?_; clear hFN; rintro e wN ⟨rfl, hbN⟩))
          try (go_wp2_with fail)
          refine hK.out _ _ ?_ (fun hHeld => ?_)
          · (try dsimp only); exact hkeepW _ _ hbN (by assumption)
          clear hK K
          try go_frame
          (refine wpAnyH_take (i := 25) (v := ?veW25) (by simp only [List.getElem?_toArray, List.getElem?_cons_succ, List.getElem?_cons_zero]; rfl) (by kernel_rfl) (by kernel_rfl) (by kernel_rfl) (fun _ _ _ h => h) (Or.inl ⟨by rfl, ?hyeW25⟩) (by assumption) ?resteW25; case hyeW25 => ((intro w' hSw); (try dsimp only at hSw); go_simp; (try with_reducible rfl)); try go_frame)
          (refine wpAnyH_take (i := 26) (v := ?veW26) (by simp only [List.getElem?_toArray, List.getElem?_cons_succ, List.getElem?_cons_zero]; rfl) (by kernel_rfl) (by kernel_rfl) (by kernel_rfl) (fun _ _ _ h => h) (Or.inl ⟨by rfl, ?hyeW26⟩) (by assumption) ?resteW26; case hyeW26 => ((intro w' hSw); (try dsimp only at hSw); go_simp; (try with_reducible rfl)); try go_frame)
          refine wpAnyH_done (by kernel_rfl) ?_ _
          refine NoPanic.normal ?_
          go_wp2
          go_ret
          first | exact ⟨rfl, bt' hBW (hBelW _ (by first | assumption | exact hkeepW _ _ hbN (by assumption)))⟩ | exact ⟨ret_bool' (by simp), bt' hBW (hBelW _ (by first | assumption | exact hkeepW _ _ hbN (by assumption)))⟩
        · have hjl' : xs.length < fs.length := by omega
          have hdj : ((xs.length : Int) == (fs.length : Int)) = false := by rw [beq_eq_false_iff_ne]; omega
          have hjb : (xs.length : Int) < fs.length := by omega
          have hj0 : (0 : Int) ≤ xs.length := by omega
          have hgr := HGR.out hjl'
          obtain ⟨gt, ot, rfl⟩ := HFV.out.some' (by omega)
          obtain ⟨q0, q1, q5, q6, qB⟩ := id hS2
          have hFU := HFV.out.below qB
          obtain ⟨e0, e1, e2⟩ := hFU.at xs.length hjl'
          have hfb := HSM.out fs[xs.length] (List.getElem_mem hjl')
          obtain ⟨y, hy⟩ : ∃ y, fs[xs.length] = y := ⟨_, rfl⟩
          rw [hy] at e0 e1 e2 hgr hfb
          have hony := fun w => lkOne_any y w (by omega) (by omega)
          unfold Fd.val at hony
          have hy1 : fLen y ≤ 2097156 := by unfold fLen; omega
          have hy0 := fLen_pos y
          obtain ⟨Y, hY⟩ : ∃ Y, fLen y = Y := ⟨_, rfl⟩
          obtain ⟨Z, hZ⟩ : ∃ Z, fSum xs = Z := ⟨_, rfl⟩
          rw [hY] at hony hgr hy1 hy0
          rw [hZ] at htz hgr hZ0 hZ1
          have hzy : IntKind.i64.wrap (Z + Y) = Z + Y := wraps_i64_40 _ (by omega) (by omega)
          have hzd : decide (most < Z + Y) = true := by simpa using hgr
          have hnj : ¬ xs.length = fs.length := hjl
          clear hY hZ hy hfb hFU hjl hup
          have hkeepU : ∀ w1 w2 : World, Below w1.heap.size w1 w2 → (w1.cell? ⟨wa.heap.size, 0, none⟩ = some (.slice (some ⟨gt, ot, none⟩) fs.length c') ∧ w1.cell? ⟨wa.heap.size, 1, none⟩ = some (.int .i64 max) ∧ w1.cell? ⟨wb.heap.size, 0, none⟩ = some (.slice ax xs.length cx) ∧ w1.cell? ⟨wb.heap.size, 1, none⟩ = some (.int .i64 most) ∧ w1.cell? ⟨gt, ot + xs.length * 3, none⟩ = some (.string y.n) ∧ w1.cell? ⟨gt, ot + xs.length * 3 + 1, none⟩ = some (.string y.v) ∧ w1.cell? ⟨gt, ot + xs.length * 3 + 2, none⟩ = some (.bool y.q) ∧ Below W.heap.size W w1) → (w2.cell? ⟨wa.heap.size, 0, none⟩ = some (.slice (some ⟨gt, ot, none⟩) fs.length c') ∧ w2.cell? ⟨wa.heap.size, 1, none⟩ = some (.int .i64 max) ∧ w2.cell? ⟨wb.heap.size, 0, none⟩ = some (.slice ax xs.length cx) ∧ w2.cell? ⟨wb.heap.size, 1, none⟩ = some (.int .i64 most) ∧ w2.cell? ⟨gt, ot + xs.length * 3, none⟩ = some (.string y.n) ∧ w2.cell? ⟨gt, ot + xs.length * 3 + 1, none⟩ = some (.string y.v) ∧ w2.cell? ⟨gt, ot + xs.length * 3 + 2, none⟩ = some (.bool y.q) ∧ Below W.heap.size W w2) := by
            rintro w1 w2 hb ⟨h0, h1, h2, h3, h4, h5, h6, hB⟩
            exact ⟨keepc hb h0, keepc hb h1, keepc hb h2, keepc hb h3, keepc hb h4, keepc hb h5, keepc hb h6, bt' hB hb⟩
          have hBelU : ∀ w' : World, (w'.cell? ⟨wa.heap.size, 0, none⟩ = some (.slice (some ⟨gt, ot, none⟩) fs.length c') ∧ w'.cell? ⟨wa.heap.size, 1, none⟩ = some (.int .i64 max) ∧ w'.cell? ⟨wb.heap.size, 0, none⟩ = some (.slice ax xs.length cx) ∧ w'.cell? ⟨wb.heap.size, 1, none⟩ = some (.int .i64 most) ∧ w'.cell? ⟨gt, ot + xs.length * 3, none⟩ = some (.string y.n) ∧ w'.cell? ⟨gt, ot + xs.length * 3 + 1, none⟩ = some (.string y.v) ∧ w'.cell? ⟨gt, ot + xs.length * 3 + 2, none⟩ = some (.bool y.q) ∧ Below W.heap.size W w') → Below W.heap.size W w' := fun w' h => h.2.2.2.2.2.2.2
          have hU0 : wN.cell? ⟨wa.heap.size, 0, none⟩ = some (.slice (some ⟨gt, ot, none⟩) fs.length c') ∧ wN.cell? ⟨wa.heap.size, 1, none⟩ = some (.int .i64 max) ∧ wN.cell? ⟨wb.heap.size, 0, none⟩ = some (.slice ax xs.length cx) ∧ wN.cell? ⟨wb.heap.size, 1, none⟩ = some (.int .i64 most) ∧ wN.cell? ⟨gt, ot + xs.length * 3, none⟩ = some (.string y.n) ∧ wN.cell? ⟨gt, ot + xs.length * 3 + 1, none⟩ = some (.string y.v) ∧ wN.cell? ⟨gt, ot + xs.length * 3 + 2, none⟩ = some (.bool y.q) ∧ Below W.heap.size W wN := ⟨q0, q1, q5, q6, e0, e1, e2, qB⟩
          clear q0 q1 q5 q6 qB e0 e1 e2
          go_wp2
          go_region_held3 (fun w' => w'.cell? ⟨wa.heap.size, 0, none⟩ = some (.slice (some ⟨gt, ot, none⟩) fs.length c') ∧ w'.cell? ⟨wa.heap.size, 1, none⟩ = some (.int .i64 max) ∧ w'.cell? ⟨wb.heap.size, 0, none⟩ = some (.slice ax xs.length cx) ∧ w'.cell? ⟨wb.heap.size, 1, none⟩ = some (.int .i64 most) ∧ w'.cell? ⟨gt, ot + xs.length * 3, none⟩ = some (.string y.n) ∧ w'.cell? ⟨gt, ot + xs.length * 3 + 1, none⟩ = some (.string y.v) ∧ w'.cell? ⟨gt, ot + xs.length * 3 + 2, none⟩ = some (.bool y.q) ∧ Below W.heap.size W w') (first | assumption | exact hkeepU _ _ ((Below.refl _ _).drew) hU0 | exact hkeepU _ _ hbN (by assumption)) ((first | (go_at_call 16; refine (htz _ (hBelU _ (by assumption))).mono ?_; clear htz; rintro e wN ⟨rfl, hbN⟩) | (go_at_call 17; refine (hony _).mono ?_; clear hony; rintro e wN ⟨rfl, hbN⟩) | (go_at_call 10; refine (hl64 _ (hBelU _ (by assumption))).mono ?_; clear hl64; rintro e wN ⟨vN, rfl, hownN, hbN⟩; obtain ⟨aN, cN, rfl⟩ := own_formT hownN; have hFN := own_Fs hownN; clear hownN) | (go_at_call 14; refine (lkFields_same fs aN (some ⟨gt, ot, none⟩) cN c' _ hFN (HFV.out.below (hBelU _ (by assumption))) (by omega)).mono ?_; clear hFN; rintro e wN ⟨rfl, hbN⟩)))
          go_wp2
          go_ret
          first | exact ⟨rfl, bt' hBW (hBelU _ (by first | assumption | exact hkeepU _ _ hbN (by assumption)))⟩ | exact ⟨ret_bool' (by simp), bt' hBW (hBelU _ (by first | assumption | exact hkeepU _ _ hbN (by assumption)))⟩
end Go.Proofs.Ytafhpcgdlmkbeae
