import Derived.Test.YtafhpcgdlmkbeaeTL2
import Derived.Test.YtafhpcgdlmkbeaeTDraw3
import Derived.Test.YtafhpcgdlmkbeaeTI6
import Derived.Deep.RegionHeld3
import Derived.Maps.RangeWalk
namespace Go.Proofs.Ytafhpcgdlmkbeae
open Go.RowKit
set_option linter.unusedVariables false

theorem flP_in {f x : Fd} (A B : List Fd) (hx : x.n = f.n ∧ x.v = f.v) (k : Nat) : k < flP f (A ++ x :: B) k ∧ flP f (A ++ x :: B) k ≤ k + A.length + 1 := by
  induction A generalizing k with
  | nil => simp only [List.nil_append, flP, if_pos hx, List.length_nil]; omega
  | cons y t ih =>
    have h := ih (k + 1)
    simp only [List.cons_append, flP, List.length_cons]
    split <;> omega
theorem find_added {xs : List Fd} {f x : Fd} {R : List Fd} {max : Int} (ht : tOk xs max = true) (hf : fOk f = true) (hx : xs = x :: R) (he : x.n = f.n ∧ x.v = f.v) : ∃ p : Nat, tabFind xs max f = (p, true) ∧ 1 ≤ p ∧ p ≤ 7 := by
  have h := flP_in fixedL R he 0
  rw [← hx] at h
  refine ⟨flP f (fixedL ++ xs) 0, ?_, by omega, by have h7 : fixedL.length = 6 := rfl; rw [h7] at h; omega⟩
  have h6 : findV xs f = (flP f (fixedL ++ xs) 0, true) := by
    unfold findV
    rw [if_neg (by omega)]
  unfold tabFind
  rw [ht, hf, h6]
  rfl

set_option maxRecDepth 100000 in
set_option maxHeartbeats 20000000 in
theorem fnAddFind_walk (a0 : Option Addr) (len0 cap0 : Nat) (z0 : List Int) (w : World) (w0 : Row w a0 len0 cap0 z0) :
    Calls Try.prog 6 #[.slice a0 len0 cap0] w fun e w' => e = .returned (.bool true) ∧ Below w.heap.size w w' := by
  by_cases c0 : (1048576 : Int) < len0
  · clear w0
    go_enter Try.func6, Try.ntmps6
    go_wp2
    go_ret
    exact ⟨rfl, Below.refl _ _⟩
  have R0 : Hid (Row w a0 len0 cap0 z0) := w0
  clear w0
  go_enter Try.func6, Try.ntmps6
  go_wp2_with fail
  refine (drawTableAdd _ _ _ _ _ R0.out).mono ?_
  rintro e wa ⟨fs, max, a', c', f, rfl, ⟨hl, hsm, m0, m1, hfs⟩, hfn, hfv, hba⟩
  have hbA : Below wa.heap.size wa ((wa.alloc (.cells #[.slice a' fs.length c', .int .i64 max] 25)).alloc (.cells #[.string f.n, .string f.v, .bool f.q] 35)) := ((Below.refl _ _).alloc (Nat.le_refl _) _).alloc (by simp) _
  have hTA : Hid (((wa.alloc (.cells #[.slice a' fs.length c', .int .i64 max] 25)).alloc (.cells #[.string f.n, .string f.v, .bool f.q] 35)).heap[wa.heap.size]? = some (.cells #[.slice a' fs.length c', .int .i64 max] 25 (0, 0))) := blkT (heap_alloc_last wa _) _
  have hFA : Hid (((wa.alloc (.cells #[.slice a' fs.length c', .int .i64 max] 25)).alloc (.cells #[.string f.n, .string f.v, .bool f.q] 35)).heap[wa.heap.size + 1]? = some (.cells #[.string f.n, .string f.v, .bool f.q] 35 (0, 0))) := by
    have h := heap_alloc_last (wa.alloc (.cells #[.slice a' fs.length c', .int .i64 max] 25)) (.cells #[.string f.n, .string f.v, .bool f.q] 35)
    rw [World.size_alloc] at h
    exact h
  have hBA := bt' hba hbA
  have HFS : Hid (Fs ((wa.alloc (.cells #[.slice a' fs.length c', .int .i64 max] 25)).alloc (.cells #[.string f.n, .string f.v, .bool f.q] 35)) a' fs.length c' fs) := hfs.below hbA
  have hoI := fun (w' : World) (h : Fs w' a' fs.length c' fs) => implTableAdd fs f a' fs.length c' max w' h hsm.bd ⟨by omega, by omega⟩ (by omega)
  have hoS := fun (w' : World) (h : Fs w' a' fs.length c' fs) => specTableAdd fs f a' fs.length c' max w' h hsm.bd ⟨by omega, by omega⟩ (by omega)
  have hoT := fun (w' : World) (h : Fs w' a' fs.length c' fs) => specTableOk fs a' fs.length c' max w' h hsm.bd (by omega)
  have hoF := fun (w' : World) => specFieldOk f w' (by omega) (by omega)
  have hxl := addV_len fs max f
  obtain ⟨⟨xs, mx⟩, hX⟩ : ∃ r, addV fs max f = r := ⟨_, rfl⟩
  rw [hX] at hoI hoS hxl
  have HX : Hid (addV fs max f = (xs, mx)) := hX
  unfold TabAns at hoI hoS
  simp only at hoI hoS hxl
  unfold Fd.val at hoI hoS hoF ⊢
  have HSM : Hid (fsSm fs) := hsm
  clear hX hsm hfs
  go_wp2_with (go_at_call 27; refine (hoI _ HFS.out).mono ?_; clear hoI; rintro e wb ⟨vx, rfl, hownX, hbb⟩; obtain ⟨ax, cx, rfl⟩ := own_formT hownX)
  have hTb := blkB hbb hTA.out
  have hFb := blkB hbb hFA.out
  have hBb := bt' hBA hbb
  have hXB : Below wb.heap.size wb (wb.alloc (.cells #[.slice ax xs.length cx, .int .i64 mx] 25)) := (Below.refl _ _).alloc (Nat.le_refl _) _
  refine wabs (fun W => W.heap[wa.heap.size]? = some (.cells #[.slice a' fs.length c', .int .i64 max] 25 (0, 0)) ∧ W.heap[wa.heap.size + 1]? = some (.cells #[.string f.n, .string f.v, .bool f.q] 35 (0, 0)) ∧ W.heap[wb.heap.size]? = some (.cells #[.slice ax xs.length cx, .int .i64 mx] 25 (0, 0)) ∧ Fs W a' fs.length c' fs ∧ Fs W ax xs.length cx xs ∧ Below w.heap.size w W) ⟨blkB hXB hTb, blkB hXB hFb, heap_alloc_last wb _, (HFS.out.below hbb).below hXB, (own_Fs hownX).below hXB, bt' hBb hXB⟩ ?_
  rintro W ⟨hTW, hFW, hXW, hFT, hFX, hBW⟩
  have HFT : Hid (Fs W a' fs.length c' fs) := hFT
  have HFX : Hid (Fs W ax xs.length cx xs) := hFX
  obtain ⟨i0, i1⟩ := row2c hTW
  obtain ⟨i2, i3, i4⟩ := row3c hFW
  obtain ⟨i5, i6⟩ := row2c hXW
  clear hTb hFb hBb hXB hbb hownX hFT hFX hTW hFW hXW hTA hFA hBA HFS hbA hba
  have hkeepW : ∀ w1 w2 : World, Below w1.heap.size w1 w2 → (w1.cell? ⟨wa.heap.size, 0, none⟩ = some (.slice a' fs.length c') ∧ w1.cell? ⟨wa.heap.size, 1, none⟩ = some (.int .i64 max) ∧ w1.cell? ⟨wa.heap.size + 1, 0, none⟩ = some (.string f.n) ∧ w1.cell? ⟨wa.heap.size + 1, 1, none⟩ = some (.string f.v) ∧ w1.cell? ⟨wa.heap.size + 1, 2, none⟩ = some (.bool f.q) ∧ w1.cell? ⟨wb.heap.size, 0, none⟩ = some (.slice ax xs.length cx) ∧ w1.cell? ⟨wb.heap.size, 1, none⟩ = some (.int .i64 mx) ∧ Below W.heap.size W w1) → (w2.cell? ⟨wa.heap.size, 0, none⟩ = some (.slice a' fs.length c') ∧ w2.cell? ⟨wa.heap.size, 1, none⟩ = some (.int .i64 max) ∧ w2.cell? ⟨wa.heap.size + 1, 0, none⟩ = some (.string f.n) ∧ w2.cell? ⟨wa.heap.size + 1, 1, none⟩ = some (.string f.v) ∧ w2.cell? ⟨wa.heap.size + 1, 2, none⟩ = some (.bool f.q) ∧ w2.cell? ⟨wb.heap.size, 0, none⟩ = some (.slice ax xs.length cx) ∧ w2.cell? ⟨wb.heap.size, 1, none⟩ = some (.int .i64 mx) ∧ Below W.heap.size W w2) := by
    rintro w1 w2 hb ⟨h0, h1, h2, h3, h4, h5, h6, hB⟩
    exact ⟨keepc hb h0, keepc hb h1, keepc hb h2, keepc hb h3, keepc hb h4, keepc hb h5, keepc hb h6, bt' hB hb⟩
  have hBelW : ∀ w' : World, (w'.cell? ⟨wa.heap.size, 0, none⟩ = some (.slice a' fs.length c') ∧ w'.cell? ⟨wa.heap.size, 1, none⟩ = some (.int .i64 max) ∧ w'.cell? ⟨wa.heap.size + 1, 0, none⟩ = some (.string f.n) ∧ w'.cell? ⟨wa.heap.size + 1, 1, none⟩ = some (.string f.v) ∧ w'.cell? ⟨wa.heap.size + 1, 2, none⟩ = some (.bool f.q) ∧ w'.cell? ⟨wb.heap.size, 0, none⟩ = some (.slice ax xs.length cx) ∧ w'.cell? ⟨wb.heap.size, 1, none⟩ = some (.int .i64 mx) ∧ Below W.heap.size W w') → Below W.heap.size W w' := fun w' h => h.2.2.2.2.2.2.2
  have hS0 : W.cell? ⟨wa.heap.size, 0, none⟩ = some (.slice a' fs.length c') ∧ W.cell? ⟨wa.heap.size, 1, none⟩ = some (.int .i64 max) ∧ W.cell? ⟨wa.heap.size + 1, 0, none⟩ = some (.string f.n) ∧ W.cell? ⟨wa.heap.size + 1, 1, none⟩ = some (.string f.v) ∧ W.cell? ⟨wa.heap.size + 1, 2, none⟩ = some (.bool f.q) ∧ W.cell? ⟨wb.heap.size, 0, none⟩ = some (.slice ax xs.length cx) ∧ W.cell? ⟨wb.heap.size, 1, none⟩ = some (.int .i64 mx) ∧ Below W.heap.size W W := ⟨i0, i1, i2, i3, i4, i5, i6, Below.refl _ _⟩
  clear i0 i1 i2 i3 i4 i5 i6
  have hmx : Try.prog.follows .mixedOrders = true := by kernel_rfl
  have hone := fun w => lkOne_any f w (by omega) (by omega)
  unfold Fd.val at hone
  have hx0 := fLen_pos f
  have hx9 : fLen f ≤ 2097156 := by unfold fLen; omega
  obtain ⟨x, hx⟩ : ∃ x, fLen f = x := ⟨_, rfl⟩
  rw [hx] at hone hx0 hx9
  have HXE : Hid (fLen f = x) := hx
  clear hx
  cases ht : tOk fs max with
  | false =>
    rw [ht] at hoT
    clear ht
    refine wp_region_noPanic ?_
    refine wp_region_held_drew (S := fun w' => w'.cell? ⟨wa.heap.size, 0, none⟩ = some (.slice a' fs.length c') ∧ w'.cell? ⟨wa.heap.size, 1, none⟩ = some (.int .i64 max) ∧ w'.cell? ⟨wa.heap.size + 1, 0, none⟩ = some (.string f.n) ∧ w'.cell? ⟨wa.heap.size + 1, 1, none⟩ = some (.string f.v) ∧ w'.cell? ⟨wa.heap.size + 1, 2, none⟩ = some (.bool f.q) ∧ w'.cell? ⟨wb.heap.size, 0, none⟩ = some (.slice ax xs.length cx) ∧ w'.cell? ⟨wb.heap.size, 1, none⟩ = some (.int .i64 mx) ∧ Below W.heap.size W w') (by kernel_rfl) ?_ (fun hHeld => ?_)
    · exact hkeepW _ _ ((Below.refl _ _).drew) hS0
    (refine wpAnyH_take (i := 0) (v := ?vaW0) (by simp only [List.getElem?_toArray, List.getElem?_cons_zero]; rfl) (by kernel_rfl) (by kernel_rfl) (by kernel_rfl) (fun _ _ _ h => h) (Or.inl ⟨by rfl, ?hyaW0⟩) (by assumption) ?restaW0; case hyaW0 => ((intro w' hSw); (try dsimp only at hSw); go_simp; (try with_reducible rfl)); try go_frame)
    (refine wpAnyH_take (i := 1) (v := ?vaW1) (by simp only [List.getElem?_toArray, List.getElem?_cons_succ, List.getElem?_cons_zero]; rfl) (by kernel_rfl) (by kernel_rfl) (by kernel_rfl) (fun _ _ _ h => h) (Or.inl ⟨by rfl, ?hyaW1⟩) (by assumption) ?restaW1; case hyaW1 => ((intro w' hSw); (try dsimp only at hSw); go_simp; (try with_reducible rfl)); try go_frame)
    (refine wpAnyH_take (i := 2) (v := ?vaW2) (by simp only [List.getElem?_toArray, List.getElem?_cons_succ, List.getElem?_cons_zero]; rfl) (by kernel_rfl) (by kernel_rfl) (by kernel_rfl) (fun _ _ _ h => h) (Or.inl ⟨by rfl, ?hyaW2⟩) (by assumption) ?restaW2; case hyaW2 => ((intro w' hSw); (try dsimp only at hSw); go_simp; (try with_reducible rfl)); try go_frame)
    refine wpAnyH_ready (rs := [3]) (by kernel_rfl) (by simp) ?_
    refine AllReadyH.cons (by simp only [List.getElem?_toArray, List.getElem?_cons_succ, List.getElem?_cons_zero]; rfl) (fun K hK => ?_) AllReadyH.nil
    first | (go_at_call 28; refine (hoS _ (HFT.out.below (hBelW _ (by assumption)))).mono ?_; rintro e wN ⟨vN, rfl, hownN, hbN⟩; obtain ⟨aN, cN, rfl⟩ := own_formT hownN; have hFN := own_Fs hownN; clear hownN) | (go_simp; (go_at_call 28; refine (hoS _ (HFT.out.below (hBelW _ (by assumption)))).mono ?_; rintro e wN ⟨vN, rfl, hownN, hbN⟩; obtain ⟨aN, cN, rfl⟩ := own_formT hownN; have hFN := own_Fs hownN; clear hownN))
    try (go_wp2_with fail)
    refine hK.out _ _ ?_ (fun hHeld => ?_)
    · (try dsimp only); exact hkeepW _ _ hbN (by assumption)
    clear hK K
    try go_frame
    refine wpAnyH_ready (rs := [4]) (by kernel_rfl) (by simp) ?_
    refine AllReadyH.cons (by simp only [List.getElem?_toArray, List.getElem?_cons_succ, List.getElem?_cons_zero]; rfl) (fun K hK => ?_) AllReadyH.nil
    first | (go_at_call 11; refine (lkTable_same xs ax aN cx cN mx _ (HFX.out.below (hBelW _ (by assumption))) hFN (by omega)).mono ?_; clear hFN; rintro e wN ⟨rfl, hbN⟩) | (go_simp; (go_at_call 11; refine (lkTable_same xs ax aN cx cN mx _ (HFX.out.below (hBelW _ (by assumption))) hFN (by omega)).mono ?_; clear hFN; rintro e wN ⟨rfl, hbN⟩))
    try (go_wp2_with fail)
    refine hK.out _ _ ?_ (fun hHeld => ?_)
    · (try dsimp only); exact hkeepW _ _ hbN (by assumption)
    clear hK K
    try go_frame
    (refine wpAnyH_take (i := 5) (v := ?vaW5) (by simp only [List.getElem?_toArray, List.getElem?_cons_succ, List.getElem?_cons_zero]; rfl) (by kernel_rfl) (by kernel_rfl) (by kernel_rfl) (fun _ _ _ h => h) (Or.inl ⟨by rfl, ?hyaW5⟩) (by assumption) ?restaW5; case hyaW5 => ((intro w' hSw); (try dsimp only at hSw); go_simp; (try with_reducible rfl)); try go_frame)
    (refine wpAnyH_take (i := 6) (v := ?vaW6) (by simp only [List.getElem?_toArray, List.getElem?_cons_succ, List.getElem?_cons_zero]; rfl) (by kernel_rfl) (by kernel_rfl) (by kernel_rfl) (fun _ _ _ h => h) (Or.inl ⟨by rfl, ?hyaW6⟩) (by assumption) ?restaW6; case hyaW6 => ((intro w' hSw); (try dsimp only at hSw); go_simp; (try with_reducible rfl)); try go_frame)
    (refine wpAnyH_take (i := 7) (v := ?vaW7) (by simp only [List.getElem?_toArray, List.getElem?_cons_succ, List.getElem?_cons_zero]; rfl) (by kernel_rfl) (by kernel_rfl) (by kernel_rfl) (fun _ _ _ h => h) (Or.inl ⟨by rfl, ?hyaW7⟩) (by assumption) ?restaW7; case hyaW7 => ((intro w' hSw); (try dsimp only at hSw); go_simp; (try with_reducible rfl)); try go_frame)
    refine wpAnyH_ready (rs := [8]) (by kernel_rfl) (by simp) ?_
    refine AllReadyH.cons (by simp only [List.getElem?_toArray, List.getElem?_cons_succ, List.getElem?_cons_zero]; rfl) (fun K hK => ?_) AllReadyH.nil
    first | (go_at_call 13; refine (hoT _ (HFT.out.below (hBelW _ (by assumption)))).mono ?_; clear hoT; rintro e wN ⟨rfl, hbN⟩) | (go_simp; (go_at_call 13; refine (hoT _ (HFT.out.below (hBelW _ (by assumption)))).mono ?_; clear hoT; rintro e wN ⟨rfl, hbN⟩))
    try (go_wp2_with fail)
    refine hK.out _ _ ?_ (fun hHeld => ?_)
    · (try dsimp only); exact hkeepW _ _ hbN (by assumption)
    clear hK K
    try go_frame
    (refine wpAnyH_take (i := 9) (v := ?vaW9) (by simp only [List.getElem?_toArray, List.getElem?_cons_succ, List.getElem?_cons_zero]; rfl) (by kernel_rfl) (by kernel_rfl) (by kernel_rfl) (fun _ _ _ h => h) (Or.inl ⟨by rfl, ?hyaW9⟩) (by assumption) ?restaW9; case hyaW9 => ((intro w' hSw); (try dsimp only at hSw); go_simp; (try with_reducible rfl)); try go_frame)
    (refine wpAnyH_take (i := 10) (v := ?vaW10) (by simp only [List.getElem?_toArray, List.getElem?_cons_succ, List.getElem?_cons_zero]; rfl) (by kernel_rfl) (by kernel_rfl) (by kernel_rfl) (fun _ _ _ h => h) (Or.inl ⟨by rfl, ?hyaW10⟩) (by assumption) ?restaW10; case hyaW10 => ((intro w' hSw); (try dsimp only at hSw); go_simp; (try with_reducible rfl)); try go_frame)
    (refine wpAnyH_take (i := 11) (v := ?vaW11) (by simp only [List.getElem?_toArray, List.getElem?_cons_succ, List.getElem?_cons_zero]; rfl) (by kernel_rfl) (by kernel_rfl) (by kernel_rfl) (fun _ _ _ h => h) (Or.inl ⟨by rfl, ?hyaW11⟩) (by assumption) ?restaW11; case hyaW11 => ((intro w' hSw); (try dsimp only at hSw); go_simp; (try with_reducible rfl)); try go_frame)
    (refine wpAnyH_take (i := 12) (v := undef) (by simp only [List.getElem?_toArray, List.getElem?_cons_succ, List.getElem?_cons_zero]; rfl) (by kernel_rfl) (by kernel_rfl) (by kernel_rfl) (fun _ _ _ h => h) (Or.inr ⟨by rfl, rfl⟩) (by assumption) ?_; try go_frame)
    (refine wpAnyH_take (i := 13) (v := undef) (by simp only [List.getElem?_toArray, List.getElem?_cons_succ, List.getElem?_cons_zero]; rfl) (by kernel_rfl) (by kernel_rfl) (by kernel_rfl) (fun _ _ _ h => h) (Or.inr ⟨by rfl, rfl⟩) (by assumption) ?_; try go_frame)
    (refine wpAnyH_take (i := 14) (v := undef) (by simp only [List.getElem?_toArray, List.getElem?_cons_succ, List.getElem?_cons_zero]; rfl) (by kernel_rfl) (by kernel_rfl) (by kernel_rfl) (fun _ _ _ h => h) (Or.inr ⟨by rfl, rfl⟩) (by assumption) ?_; try go_frame)
    (refine wpAnyH_take (i := 15) (v := ?vaW15) (by simp only [List.getElem?_toArray, List.getElem?_cons_succ, List.getElem?_cons_zero]; rfl) (by kernel_rfl) (by kernel_rfl) (by kernel_rfl) (fun _ _ _ h => h) (Or.inl ⟨by rfl, ?hyaW15⟩) (by assumption) ?restaW15; case hyaW15 => ((intro w' hSw); (try dsimp only at hSw); go_simp; (try with_reducible rfl)); try go_frame)
    (refine wpAnyH_take (i := 16) (v := ?vaW16) (by simp only [List.getElem?_toArray, List.getElem?_cons_succ, List.getElem?_cons_zero]; rfl) (by kernel_rfl) (by kernel_rfl) (by kernel_rfl) (fun _ _ _ h => h) (Or.inl ⟨by rfl, ?hyaW16⟩) (by assumption) ?restaW16; case hyaW16 => ((intro w' hSw); (try dsimp only at hSw); go_simp; (try with_reducible rfl)); try go_frame)
    (refine wpAnyH_take (i := 17) (v := undef) (by simp only [List.getElem?_toArray, List.getElem?_cons_succ, List.getElem?_cons_zero]; rfl) (by kernel_rfl) (by kernel_rfl) (by kernel_rfl) (fun _ _ _ h => h) (Or.inr ⟨by rfl, rfl⟩) (by assumption) ?_; try go_frame)
    (refine wpAnyH_take (i := 18) (v := undef) (by simp only [List.getElem?_toArray, List.getElem?_cons_succ, List.getElem?_cons_zero]; rfl) (by kernel_rfl) (by kernel_rfl) (by kernel_rfl) (fun _ _ _ h => h) (Or.inr ⟨by rfl, rfl⟩) (by assumption) ?_; try go_frame)
    (refine wpAnyH_take (i := 19) (v := undef) (by simp only [List.getElem?_toArray, List.getElem?_cons_succ, List.getElem?_cons_zero]; rfl) (by kernel_rfl) (by kernel_rfl) (by kernel_rfl) (fun _ _ _ h => h) (Or.inr ⟨by rfl, rfl⟩) (by assumption) ?_; try go_frame)
    (refine wpAnyH_take (i := 20) (v := undef) (by simp only [List.getElem?_toArray, List.getElem?_cons_succ, List.getElem?_cons_zero]; rfl) (by kernel_rfl) (by kernel_rfl) (by kernel_rfl) (fun _ _ _ h => h) (Or.inr ⟨by rfl, rfl⟩) (by assumption) ?_; try go_frame)
    (refine wpAnyH_take (i := 21) (v := undef) (by simp only [List.getElem?_toArray, List.getElem?_cons_succ, List.getElem?_cons_zero]; rfl) (by kernel_rfl) (by kernel_rfl) (by kernel_rfl) (fun _ _ _ h => h) (Or.inr ⟨by rfl, rfl⟩) (by assumption) ?_; try go_frame)
    (refine wpAnyH_take (i := 22) (v := ?vaW22) (by simp only [List.getElem?_toArray, List.getElem?_cons_succ, List.getElem?_cons_zero]; rfl) (by kernel_rfl) (by kernel_rfl) (by kernel_rfl) (fun _ _ _ h => h) (Or.inl ⟨by rfl, ?hyaW22⟩) (by assumption) ?restaW22; case hyaW22 => ((intro w' hSw); (try dsimp only at hSw); go_simp; (try with_reducible rfl)); try go_frame)
    refine wpAnyH_done (by kernel_rfl) ?_ _
    refine NoPanic.normal ?_
    have hS1 : wN.cell? ⟨wa.heap.size, 0, none⟩ = some (.slice a' fs.length c') ∧ wN.cell? ⟨wa.heap.size, 1, none⟩ = some (.int .i64 max) ∧ wN.cell? ⟨wa.heap.size + 1, 0, none⟩ = some (.string f.n) ∧ wN.cell? ⟨wa.heap.size + 1, 1, none⟩ = some (.string f.v) ∧ wN.cell? ⟨wa.heap.size + 1, 2, none⟩ = some (.bool f.q) ∧ wN.cell? ⟨wb.heap.size, 0, none⟩ = some (.slice ax xs.length cx) ∧ wN.cell? ⟨wb.heap.size, 1, none⟩ = some (.int .i64 mx) ∧ Below W.heap.size W wN := by first | assumption | exact hkeepW _ _ hbN (by assumption)
    clear hS0
    go_wp2
    go_region_held3 (fun w' => w'.cell? ⟨wa.heap.size, 0, none⟩ = some (.slice a' fs.length c') ∧ w'.cell? ⟨wa.heap.size, 1, none⟩ = some (.int .i64 max) ∧ w'.cell? ⟨wa.heap.size + 1, 0, none⟩ = some (.string f.n) ∧ w'.cell? ⟨wa.heap.size + 1, 1, none⟩ = some (.string f.v) ∧ w'.cell? ⟨wa.heap.size + 1, 2, none⟩ = some (.bool f.q) ∧ w'.cell? ⟨wb.heap.size, 0, none⟩ = some (.slice ax xs.length cx) ∧ w'.cell? ⟨wb.heap.size, 1, none⟩ = some (.int .i64 mx) ∧ Below W.heap.size W w') (first | assumption | exact hkeepW _ _ ((Below.refl _ _).drew) hS1 | exact hkeepW _ _ hbN (by assumption)) ((first | (go_at_call 28; refine (hoS _ (HFT.out.below (hBelW _ (by assumption)))).mono ?_; rintro e wN ⟨vN, rfl, hownN, hbN⟩; obtain ⟨aN, cN, rfl⟩ := own_formT hownN; have hFN := own_Fs hownN; clear hownN) | (go_at_call 11; refine (lkTable_same xs ax aN cx cN mx _ (HFX.out.below (hBelW _ (by assumption))) hFN (by omega)).mono ?_; clear hFN; rintro e wN ⟨rfl, hbN⟩)))
    go_wp2
    go_ret
    exact ⟨rfl, bt' hBW (hBelW _ (by first | assumption | exact hkeepW _ _ hbN (by assumption)))⟩
  | true =>
    rw [ht] at hoT
    cases hfk : fOk f with
    | false =>
      rw [hfk] at hoF
      clear ht hfk
      refine wp_region_noPanic ?_
      refine wp_region_held_drew (S := fun w' => w'.cell? ⟨wa.heap.size, 0, none⟩ = some (.slice a' fs.length c') ∧ w'.cell? ⟨wa.heap.size, 1, none⟩ = some (.int .i64 max) ∧ w'.cell? ⟨wa.heap.size + 1, 0, none⟩ = some (.string f.n) ∧ w'.cell? ⟨wa.heap.size + 1, 1, none⟩ = some (.string f.v) ∧ w'.cell? ⟨wa.heap.size + 1, 2, none⟩ = some (.bool f.q) ∧ w'.cell? ⟨wb.heap.size, 0, none⟩ = some (.slice ax xs.length cx) ∧ w'.cell? ⟨wb.heap.size, 1, none⟩ = some (.int .i64 mx) ∧ Below W.heap.size W w') (by kernel_rfl) ?_ (fun hHeld => ?_)
      · exact hkeepW _ _ ((Below.refl _ _).drew) hS0
      (refine wpAnyH_take (i := 0) (v := ?vbW0) (by simp only [List.getElem?_toArray, List.getElem?_cons_zero]; rfl) (by kernel_rfl) (by kernel_rfl) (by kernel_rfl) (fun _ _ _ h => h) (Or.inl ⟨by rfl, ?hybW0⟩) (by assumption) ?restbW0; case hybW0 => ((intro w' hSw); (try dsimp only at hSw); go_simp; (try with_reducible rfl)); try go_frame)
      (refine wpAnyH_take (i := 1) (v := ?vbW1) (by simp only [List.getElem?_toArray, List.getElem?_cons_succ, List.getElem?_cons_zero]; rfl) (by kernel_rfl) (by kernel_rfl) (by kernel_rfl) (fun _ _ _ h => h) (Or.inl ⟨by rfl, ?hybW1⟩) (by assumption) ?restbW1; case hybW1 => ((intro w' hSw); (try dsimp only at hSw); go_simp; (try with_reducible rfl)); try go_frame)
      (refine wpAnyH_take (i := 2) (v := ?vbW2) (by simp only [List.getElem?_toArray, List.getElem?_cons_succ, List.getElem?_cons_zero]; rfl) (by kernel_rfl) (by kernel_rfl) (by kernel_rfl) (fun _ _ _ h => h) (Or.inl ⟨by rfl, ?hybW2⟩) (by assumption) ?restbW2; case hybW2 => ((intro w' hSw); (try dsimp only at hSw); go_simp; (try with_reducible rfl)); try go_frame)
      refine wpAnyH_ready (rs := [3]) (by kernel_rfl) (by simp) ?_
      refine AllReadyH.cons (by simp only [List.getElem?_toArray, List.getElem?_cons_succ, List.getElem?_cons_zero]; rfl) (fun K hK => ?_) AllReadyH.nil
      first | (go_at_call 28; refine (hoS _ (HFT.out.below (hBelW _ (by assumption)))).mono ?_; rintro e wN ⟨vN, rfl, hownN, hbN⟩; obtain ⟨aN, cN, rfl⟩ := own_formT hownN; have hFN := own_Fs hownN; clear hownN) | (go_simp; (go_at_call 28; refine (hoS _ (HFT.out.below (hBelW _ (by assumption)))).mono ?_; rintro e wN ⟨vN, rfl, hownN, hbN⟩; obtain ⟨aN, cN, rfl⟩ := own_formT hownN; have hFN := own_Fs hownN; clear hownN))
      try (go_wp2_with fail)
      refine hK.out _ _ ?_ (fun hHeld => ?_)
      · (try dsimp only); exact hkeepW _ _ hbN (by assumption)
      clear hK K
      try go_frame
      refine wpAnyH_ready (rs := [4]) (by kernel_rfl) (by simp) ?_
      refine AllReadyH.cons (by simp only [List.getElem?_toArray, List.getElem?_cons_succ, List.getElem?_cons_zero]; rfl) (fun K hK => ?_) AllReadyH.nil
      first | (go_at_call 11; refine (lkTable_same xs ax aN cx cN mx _ (HFX.out.below (hBelW _ (by assumption))) hFN (by omega)).mono ?_; clear hFN; rintro e wN ⟨rfl, hbN⟩) | (go_simp; (go_at_call 11; refine (lkTable_same xs ax aN cx cN mx _ (HFX.out.below (hBelW _ (by assumption))) hFN (by omega)).mono ?_; clear hFN; rintro e wN ⟨rfl, hbN⟩))
      try (go_wp2_with fail)
      refine hK.out _ _ ?_ (fun hHeld => ?_)
      · (try dsimp only); exact hkeepW _ _ hbN (by assumption)
      clear hK K
      try go_frame
      (refine wpAnyH_take (i := 5) (v := ?vbW5) (by simp only [List.getElem?_toArray, List.getElem?_cons_succ, List.getElem?_cons_zero]; rfl) (by kernel_rfl) (by kernel_rfl) (by kernel_rfl) (fun _ _ _ h => h) (Or.inl ⟨by rfl, ?hybW5⟩) (by assumption) ?restbW5; case hybW5 => ((intro w' hSw); (try dsimp only at hSw); go_simp; (try with_reducible rfl)); try go_frame)
      (refine wpAnyH_take (i := 6) (v := ?vbW6) (by simp only [List.getElem?_toArray, List.getElem?_cons_succ, List.getElem?_cons_zero]; rfl) (by kernel_rfl) (by kernel_rfl) (by kernel_rfl) (fun _ _ _ h => h) (Or.inl ⟨by rfl, ?hybW6⟩) (by assumption) ?restbW6; case hybW6 => ((intro w' hSw); (try dsimp only at hSw); go_simp; (try with_reducible rfl)); try go_frame)
      (refine wpAnyH_take (i := 7) (v := ?vbW7) (by simp only [List.getElem?_toArray, List.getElem?_cons_succ, List.getElem?_cons_zero]; rfl) (by kernel_rfl) (by kernel_rfl) (by kernel_rfl) (fun _ _ _ h => h) (Or.inl ⟨by rfl, ?hybW7⟩) (by assumption) ?restbW7; case hybW7 => ((intro w' hSw); (try dsimp only at hSw); go_simp; (try with_reducible rfl)); try go_frame)
      refine wpAnyH_ready (rs := [8]) (by kernel_rfl) (by simp) ?_
      refine AllReadyH.cons (by simp only [List.getElem?_toArray, List.getElem?_cons_succ, List.getElem?_cons_zero]; rfl) (fun K hK => ?_) AllReadyH.nil
      first | (go_at_call 13; refine (hoT _ (HFT.out.below (hBelW _ (by assumption)))).mono ?_; clear hoT; rintro e wN ⟨rfl, hbN⟩) | (go_simp; (go_at_call 13; refine (hoT _ (HFT.out.below (hBelW _ (by assumption)))).mono ?_; clear hoT; rintro e wN ⟨rfl, hbN⟩))
      try (go_wp2_with fail)
      refine hK.out _ _ ?_ (fun hHeld => ?_)
      · (try dsimp only); exact hkeepW _ _ hbN (by assumption)
      clear hK K
      try go_frame
      (refine wpAnyH_take (i := 9) (v := ?vbW9) (by simp only [List.getElem?_toArray, List.getElem?_cons_succ, List.getElem?_cons_zero]; rfl) (by kernel_rfl) (by kernel_rfl) (by kernel_rfl) (fun _ _ _ h => h) (Or.inl ⟨by rfl, ?hybW9⟩) (by assumption) ?restbW9; case hybW9 => ((intro w' hSw); (try dsimp only at hSw); go_simp; (try with_reducible rfl)); try go_frame)
      (refine wpAnyH_take (i := 10) (v := ?vbW10) (by simp only [List.getElem?_toArray, List.getElem?_cons_succ, List.getElem?_cons_zero]; rfl) (by kernel_rfl) (by kernel_rfl) (by kernel_rfl) (fun _ _ _ h => h) (Or.inl ⟨by rfl, ?hybW10⟩) (by assumption) ?restbW10; case hybW10 => ((intro w' hSw); (try dsimp only at hSw); go_simp; (try with_reducible rfl)); try go_frame)
      (refine wpAnyH_take (i := 11) (v := ?vbW11) (by simp only [List.getElem?_toArray, List.getElem?_cons_succ, List.getElem?_cons_zero]; rfl) (by kernel_rfl) (by kernel_rfl) (by kernel_rfl) (fun _ _ _ h => h) (Or.inl ⟨by rfl, ?hybW11⟩) (by assumption) ?restbW11; case hybW11 => ((intro w' hSw); (try dsimp only at hSw); go_simp; (try with_reducible rfl)); try go_frame)
      (refine wpAnyH_take (i := 12) (v := ?vbW12) (by simp only [List.getElem?_toArray, List.getElem?_cons_succ, List.getElem?_cons_zero]; rfl) (by kernel_rfl) (by kernel_rfl) (by kernel_rfl) (fun _ _ _ h => h) (Or.inl ⟨by rfl, ?hybW12⟩) (by assumption) ?restbW12; case hybW12 => ((intro w' hSw); (try dsimp only at hSw); go_simp; (try with_reducible rfl)); try go_frame)
      refine wpAnyH_ready (rs := [13]) (by kernel_rfl) (by simp) ?_
      refine AllReadyH.cons (by simp only [List.getElem?_toArray, List.getElem?_cons_succ, List.getElem?_cons_zero]; rfl) (fun K hK => ?_) AllReadyH.nil
      first | (go_at_call 25; refine (hoF _).mono ?_; clear hoF; rintro e wN ⟨rfl, hbN⟩) | (go_simp; (go_at_call 25; refine (hoF _).mono ?_; clear hoF; rintro e wN ⟨rfl, hbN⟩))
      try (go_wp2_with fail)
      refine hK.out _ _ ?_ (fun hHeld => ?_)
      · (try dsimp only); exact hkeepW _ _ hbN (by assumption)
      clear hK K
      try go_frame
      (refine wpAnyH_take (i := 14) (v := ?vbW14) (by simp only [List.getElem?_toArray, List.getElem?_cons_succ, List.getElem?_cons_zero]; rfl) (by kernel_rfl) (by kernel_rfl) (by kernel_rfl) (fun _ _ _ h => h) (Or.inl ⟨by rfl, ?hybW14⟩) (by assumption) ?restbW14; case hybW14 => ((intro w' hSw); (try dsimp only at hSw); go_simp; (try with_reducible rfl)); try go_frame)
      (refine wpAnyH_take (i := 15) (v := ?vbW15) (by simp only [List.getElem?_toArray, List.getElem?_cons_succ, List.getElem?_cons_zero]; rfl) (by kernel_rfl) (by kernel_rfl) (by kernel_rfl) (fun _ _ _ h => h) (Or.inl ⟨by rfl, ?hybW15⟩) (by assumption) ?restbW15; case hybW15 => ((intro w' hSw); (try dsimp only at hSw); go_simp; (try with_reducible rfl)); try go_frame)
      (refine wpAnyH_take (i := 16) (v := ?vbW16) (by simp only [List.getElem?_toArray, List.getElem?_cons_succ, List.getElem?_cons_zero]; rfl) (by kernel_rfl) (by kernel_rfl) (by kernel_rfl) (fun _ _ _ h => h) (Or.inl ⟨by rfl, ?hybW16⟩) (by assumption) ?restbW16; case hybW16 => ((intro w' hSw); (try dsimp only at hSw); go_simp; (try with_reducible rfl)); try go_frame)
      (refine wpAnyH_take (i := 17) (v := undef) (by simp only [List.getElem?_toArray, List.getElem?_cons_succ, List.getElem?_cons_zero]; rfl) (by kernel_rfl) (by kernel_rfl) (by kernel_rfl) (fun _ _ _ h => h) (Or.inr ⟨by rfl, rfl⟩) (by assumption) ?_; try go_frame)
      (refine wpAnyH_take (i := 18) (v := undef) (by simp only [List.getElem?_toArray, List.getElem?_cons_succ, List.getElem?_cons_zero]; rfl) (by kernel_rfl) (by kernel_rfl) (by kernel_rfl) (fun _ _ _ h => h) (Or.inr ⟨by rfl, rfl⟩) (by assumption) ?_; try go_frame)
      (refine wpAnyH_take (i := 19) (v := undef) (by simp only [List.getElem?_toArray, List.getElem?_cons_succ, List.getElem?_cons_zero]; rfl) (by kernel_rfl) (by kernel_rfl) (by kernel_rfl) (fun _ _ _ h => h) (Or.inr ⟨by rfl, rfl⟩) (by assumption) ?_; try go_frame)
      (refine wpAnyH_take (i := 20) (v := undef) (by simp only [List.getElem?_toArray, List.getElem?_cons_succ, List.getElem?_cons_zero]; rfl) (by kernel_rfl) (by kernel_rfl) (by kernel_rfl) (fun _ _ _ h => h) (Or.inr ⟨by rfl, rfl⟩) (by assumption) ?_; try go_frame)
      (refine wpAnyH_take (i := 21) (v := undef) (by simp only [List.getElem?_toArray, List.getElem?_cons_succ, List.getElem?_cons_zero]; rfl) (by kernel_rfl) (by kernel_rfl) (by kernel_rfl) (fun _ _ _ h => h) (Or.inr ⟨by rfl, rfl⟩) (by assumption) ?_; try go_frame)
      (refine wpAnyH_take (i := 22) (v := ?vbW22) (by simp only [List.getElem?_toArray, List.getElem?_cons_succ, List.getElem?_cons_zero]; rfl) (by kernel_rfl) (by kernel_rfl) (by kernel_rfl) (fun _ _ _ h => h) (Or.inl ⟨by rfl, ?hybW22⟩) (by assumption) ?restbW22; case hybW22 => ((intro w' hSw); (try dsimp only at hSw); go_simp; (try with_reducible rfl)); try go_frame)
      refine wpAnyH_done (by kernel_rfl) ?_ _
      refine NoPanic.normal ?_
      have hS1 : wN.cell? ⟨wa.heap.size, 0, none⟩ = some (.slice a' fs.length c') ∧ wN.cell? ⟨wa.heap.size, 1, none⟩ = some (.int .i64 max) ∧ wN.cell? ⟨wa.heap.size + 1, 0, none⟩ = some (.string f.n) ∧ wN.cell? ⟨wa.heap.size + 1, 1, none⟩ = some (.string f.v) ∧ wN.cell? ⟨wa.heap.size + 1, 2, none⟩ = some (.bool f.q) ∧ wN.cell? ⟨wb.heap.size, 0, none⟩ = some (.slice ax xs.length cx) ∧ wN.cell? ⟨wb.heap.size, 1, none⟩ = some (.int .i64 mx) ∧ Below W.heap.size W wN := by first | assumption | exact hkeepW _ _ hbN (by assumption)
      clear hS0
      go_wp2
      go_region_held3 (fun w' => w'.cell? ⟨wa.heap.size, 0, none⟩ = some (.slice a' fs.length c') ∧ w'.cell? ⟨wa.heap.size, 1, none⟩ = some (.int .i64 max) ∧ w'.cell? ⟨wa.heap.size + 1, 0, none⟩ = some (.string f.n) ∧ w'.cell? ⟨wa.heap.size + 1, 1, none⟩ = some (.string f.v) ∧ w'.cell? ⟨wa.heap.size + 1, 2, none⟩ = some (.bool f.q) ∧ w'.cell? ⟨wb.heap.size, 0, none⟩ = some (.slice ax xs.length cx) ∧ w'.cell? ⟨wb.heap.size, 1, none⟩ = some (.int .i64 mx) ∧ Below W.heap.size W w') (first | assumption | exact hkeepW _ _ ((Below.refl _ _).drew) hS1 | exact hkeepW _ _ hbN (by assumption)) ((first | (go_at_call 28; refine (hoS _ (HFT.out.below (hBelW _ (by assumption)))).mono ?_; rintro e wN ⟨vN, rfl, hownN, hbN⟩; obtain ⟨aN, cN, rfl⟩ := own_formT hownN; have hFN := own_Fs hownN; clear hownN) | (go_at_call 11; refine (lkTable_same xs ax aN cx cN mx _ (HFX.out.below (hBelW _ (by assumption))) hFN (by omega)).mono ?_; clear hFN; rintro e wN ⟨rfl, hbN⟩)))
      go_wp2
      go_ret
      exact ⟨rfl, bt' hBW (hBelW _ (by first | assumption | exact hkeepW _ _ hbN (by assumption)))⟩
    | true =>
      rw [hfk] at hoF
      by_cases hgt : max < x
      · have hdg : decide (max < x) = true := by simpa using hgt
        clear ht hfk
        go_region_held3 (fun w' => w'.cell? ⟨wa.heap.size, 0, none⟩ = some (.slice a' fs.length c') ∧ w'.cell? ⟨wa.heap.size, 1, none⟩ = some (.int .i64 max) ∧ w'.cell? ⟨wa.heap.size + 1, 0, none⟩ = some (.string f.n) ∧ w'.cell? ⟨wa.heap.size + 1, 1, none⟩ = some (.string f.v) ∧ w'.cell? ⟨wa.heap.size + 1, 2, none⟩ = some (.bool f.q) ∧ w'.cell? ⟨wb.heap.size, 0, none⟩ = some (.slice ax xs.length cx) ∧ w'.cell? ⟨wb.heap.size, 1, none⟩ = some (.int .i64 mx) ∧ Below W.heap.size W w') (first | assumption | exact hkeepW _ _ ((Below.refl _ _).drew) hS0 | exact hkeepW _ _ hbN (by assumption)) ((first | (go_at_call 28; refine (hoS _ (HFT.out.below (hBelW _ (by assumption)))).mono ?_; rintro e wN ⟨vN, rfl, hownN, hbN⟩; obtain ⟨aN, cN, rfl⟩ := own_formT hownN; have hFN := own_Fs hownN; clear hownN) | (go_at_call 11; refine (lkTable_same xs ax aN cx cN mx _ (HFX.out.below (hBelW _ (by assumption))) hFN (by omega)).mono ?_; clear hFN; rintro e wN ⟨rfl, hbN⟩) | (go_at_call 13; refine (hoT _ (HFT.out.below (hBelW _ (by assumption)))).mono ?_; clear hoT; rintro e wN ⟨rfl, hbN⟩) | (go_at_call 25; refine (hoF _).mono ?_; clear hoF; rintro e wN ⟨rfl, hbN⟩) | (go_at_call 17; refine (hone _).mono ?_; clear hone; rintro e wN ⟨rfl, hbN⟩)))
        have hS1 : wN.cell? ⟨wa.heap.size, 0, none⟩ = some (.slice a' fs.length c') ∧ wN.cell? ⟨wa.heap.size, 1, none⟩ = some (.int .i64 max) ∧ wN.cell? ⟨wa.heap.size + 1, 0, none⟩ = some (.string f.n) ∧ wN.cell? ⟨wa.heap.size + 1, 1, none⟩ = some (.string f.v) ∧ wN.cell? ⟨wa.heap.size + 1, 2, none⟩ = some (.bool f.q) ∧ wN.cell? ⟨wb.heap.size, 0, none⟩ = some (.slice ax xs.length cx) ∧ wN.cell? ⟨wb.heap.size, 1, none⟩ = some (.int .i64 mx) ∧ Below W.heap.size W wN := by first | assumption | exact hkeepW _ _ hbN (by assumption)
        clear hS0
        go_wp2
        go_region_held3 (fun w' => w'.cell? ⟨wa.heap.size, 0, none⟩ = some (.slice a' fs.length c') ∧ w'.cell? ⟨wa.heap.size, 1, none⟩ = some (.int .i64 max) ∧ w'.cell? ⟨wa.heap.size + 1, 0, none⟩ = some (.string f.n) ∧ w'.cell? ⟨wa.heap.size + 1, 1, none⟩ = some (.string f.v) ∧ w'.cell? ⟨wa.heap.size + 1, 2, none⟩ = some (.bool f.q) ∧ w'.cell? ⟨wb.heap.size, 0, none⟩ = some (.slice ax xs.length cx) ∧ w'.cell? ⟨wb.heap.size, 1, none⟩ = some (.int .i64 mx) ∧ Below W.heap.size W w') (first | assumption | exact hkeepW _ _ ((Below.refl _ _).drew) hS1 | exact hkeepW _ _ hbN (by assumption)) ((first | (go_at_call 28; refine (hoS _ (HFT.out.below (hBelW _ (by assumption)))).mono ?_; rintro e wN ⟨vN, rfl, hownN, hbN⟩; obtain ⟨aN, cN, rfl⟩ := own_formT hownN; have hFN := own_Fs hownN; clear hownN) | (go_at_call 11; refine (lkTable_same xs ax aN cx cN mx _ (HFX.out.below (hBelW _ (by assumption))) hFN (by omega)).mono ?_; clear hFN; rintro e wN ⟨rfl, hbN⟩)))
        go_wp2
        go_ret
        exact ⟨rfl, bt' hBW (hBelW _ (by first | assumption | exact hkeepW _ _ hbN (by assumption)))⟩
      · have hle : x ≤ max := by omega
        have hdg : decide (max < x) = false := by simpa using hle
        have hV := HX.out
        rw [addV_ok ht hfk] at hV
        injection hV with hV1 hV2
        subst hV2
        obtain ⟨R, hR1, hR2, hR3, hR4, hR5⟩ := add_fits ht hfk (by rw [HXE.out]; exact hle)
        have hxsR : xs = ⟨f.n, f.v, false⟩ :: R := by rw [← hV1, hR1]
        have htx : tOk xs max = true := by rw [hxsR]; exact hR4
        obtain ⟨p, hp, hp1, hp7⟩ := find_added htx hfk hxsR ⟨rfl, rfl⟩
        have hsmx : fsSm xs := by
          rw [hxsR, hR2]
          intro y hy
          rcases List.mem_cons.1 hy with rfl | hy
          · exact ⟨hfn, hfv⟩
          · exact HSM.out y (List.mem_of_mem_take hy)
        have hfi := fun (w' : World) (hb : Below W.heap.size W w') => implTableFind xs ax xs.length cx max f w' (HFX.out.below hb) hsmx.bd (by omega) (by omega) (by omega)
        rw [hp] at hfi
        unfold Fd.val at hfi
        simp only at hfi
        have hpa : (1 : Int) ≤ (p : Int) := by omega
        have hpb : (p : Int) ≤ 7 := by omega
        clear ht hfk hV1 hR1 hR2 hR3 hR4 hR5 hxsR htx hsmx hp HX
        go_region_held3 (fun w' => w'.cell? ⟨wa.heap.size, 0, none⟩ = some (.slice a' fs.length c') ∧ w'.cell? ⟨wa.heap.size, 1, none⟩ = some (.int .i64 max) ∧ w'.cell? ⟨wa.heap.size + 1, 0, none⟩ = some (.string f.n) ∧ w'.cell? ⟨wa.heap.size + 1, 1, none⟩ = some (.string f.v) ∧ w'.cell? ⟨wa.heap.size + 1, 2, none⟩ = some (.bool f.q) ∧ w'.cell? ⟨wb.heap.size, 0, none⟩ = some (.slice ax xs.length cx) ∧ w'.cell? ⟨wb.heap.size, 1, none⟩ = some (.int .i64 max) ∧ Below W.heap.size W w') (first | assumption | exact hkeepW _ _ ((Below.refl _ _).drew) hS0 | exact hkeepW _ _ hbN (by assumption)) ((first | (go_at_call 28; refine (hoS _ (HFT.out.below (hBelW _ (by assumption)))).mono ?_; rintro e wN ⟨vN, rfl, hownN, hbN⟩; obtain ⟨aN, cN, rfl⟩ := own_formT hownN; have hFN := own_Fs hownN; clear hownN) | (go_at_call 11; refine (lkTable_same xs ax aN cx cN max _ (HFX.out.below (hBelW _ (by assumption))) hFN (by omega)).mono ?_; clear hFN; rintro e wN ⟨rfl, hbN⟩) | (go_at_call 13; refine (hoT _ (HFT.out.below (hBelW _ (by assumption)))).mono ?_; clear hoT; rintro e wN ⟨rfl, hbN⟩) | (go_at_call 25; refine (hoF _).mono ?_; clear hoF; rintro e wN ⟨rfl, hbN⟩) | (go_at_call 17; refine (hone _).mono ?_; clear hone; rintro e wN ⟨rfl, hbN⟩)))
        have hS1 : wN.cell? ⟨wa.heap.size, 0, none⟩ = some (.slice a' fs.length c') ∧ wN.cell? ⟨wa.heap.size, 1, none⟩ = some (.int .i64 max) ∧ wN.cell? ⟨wa.heap.size + 1, 0, none⟩ = some (.string f.n) ∧ wN.cell? ⟨wa.heap.size + 1, 1, none⟩ = some (.string f.v) ∧ wN.cell? ⟨wa.heap.size + 1, 2, none⟩ = some (.bool f.q) ∧ wN.cell? ⟨wb.heap.size, 0, none⟩ = some (.slice ax xs.length cx) ∧ wN.cell? ⟨wb.heap.size, 1, none⟩ = some (.int .i64 max) ∧ Below W.heap.size W wN := by first | assumption | exact hkeepW _ _ hbN (by assumption)
        obtain ⟨q0, q1, q2, q3, q4, q5, q6, qB⟩ := id hS1
        clear hS0 hS1
        go_wp2_with (first | (go_at_call 24; refine (hfi _ qB).mono ?_; clear hfi; rintro e w3 ⟨rfl, hb3⟩) | (go_at_call 21; refine (implTableFixed _).mono ?_; rintro e w4 ⟨a4, c4, rfl, hown4, hb4⟩))
        go_ret
        exact ⟨rfl, bt' (bt' (bt' hBW qB) hb3) hb4⟩
end Go.Proofs.Ytafhpcgdlmkbeae
