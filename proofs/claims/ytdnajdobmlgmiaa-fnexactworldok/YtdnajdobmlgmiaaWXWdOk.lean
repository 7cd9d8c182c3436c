import Derived.Test.YtdnajdobmlgmiaaEpW3
import Derived.Deep.RegionHeld3
import Derived.Maps.RangeWalk
namespace Go.Proofs.Ytdnajdobmlgmiaa
open Go.RowKit
set_option linter.unusedVariables false

set_option maxRecDepth 100000 in
set_option maxHeartbeats 20000000 in
theorem fnExactWorldOk_walk (c a : Ed) (x y : Q4) (up down : ByteArray) (w : World) (hA : WdA w c a x y up down) :
    Calls Try.prog 4 #[.agg (wdC c a x y up down)] w fun r w' => r = .returned (.bool true) ∧ Below w.heap.size w w' := by
  have HA : Hid _ := hA
  have S0 := (SB.start w).alloc (wdC c a x y up down) 46
  have HS0 : Hid _ := S0
  have hsz := fun W (h : Below w.heap.size w W) => szWorld_any c a x y up down 1048576 W (HA.out.below h) (by decide) (by decide)
  clear hA S0
  go_enter Try.func4, Try.ntmps4
  go_upto_region 1 with fail
  refine wabsW (fun V => SB w V [(w.heap.size, (wdC c a x y up down), 46)]) HS0.out ?_
  clear HS0
  rintro V1 S1
  have HS1 : Hid _ := S1
  clear S1
  go_upto_region 3 with (first | (refine wpList_load_row rfl 46 _ rfl w.heap.size rfl 46 (wdC c a x y up down) (0, 0) _ (HS1.out.at 0 rfl) Try.underlying46 rfl infoWdL ?_) | (go_at_call 10; refine (hsz _ HS1.out.bel).mono ?_; clear hsz; rintro r w1 ⟨z, rfl, hz, hb⟩))
  have HS2 : Hid _ := HS1.out.below hb
  clear HS1 hb
  rcases hz with rfl | ⟨z0, hbd⟩
  · go_wp2
    go_ret
    exact ⟨rfl, HS2.out.bel⟩
  have hd : decide (z < 0) = false := by rw [decide_eq_false_iff_not]; omega
  have HBD : Hid (WdBd c a up down) := hbd
  clear hbd
  have tE := fun W (h : Below w.heap.size w W) => toWorld_any c a x y up down W (HA.out.below h) (EdLn.of HBD.out.c) (EdLn.of HBD.out.a)
  have tE2 := tE
  have tE3 := tE
  have pS := fun W (x y : Q4) (h : EVq W c x) (k : EVq W a y) => specWorldOk c a x y up down W h k HBD.out
  have pI := fun W (x y : Q4) (h : EVq W c x) (k : EVq W a y) => implWorldOk c a x y up down W h k HBD.out
  obtain ⟨R, hR⟩ : ∃ R, wdOk c a up down = R := ⟨_, rfl⟩
  rw [hR] at pS pI
  clear hR
  go_upto_region 6 with (first | (refine wpList_load_row rfl 46 _ rfl w.heap.size rfl 46 (wdC c a x y up down) (0, 0) _ (HS2.out.at 0 rfl) Try.underlying46 rfl infoWdL ?_) | (go_at_call 12; refine (tE _ HS2.out.bel).mono ?_; clear tE; rintro r w2 ⟨x1, y1, g1, g2, rfl, hE1, hE2, hb2⟩; have HE1 : Hid (EVq w2 c x1 ∧ EVq w2 a y1) := ⟨hE1.read, hE2.read⟩; have HB2 : Hid _ := hb2; clear hE1 hE2 hb2) | (go_at_call 11; refine (pS _ _ _ HE1.out.1 HE1.out.2).mono ?_; clear pS; rintro r w3 ⟨rfl, hb3⟩))
  have HS3 : Hid _ := (HS2.out.below HB2.out).below hb3
  clear HS2 HB2 hb3 HE1
  go_upto_region 7 with (first | (refine wpList_load_row rfl 46 _ rfl w.heap.size rfl 46 (wdC c a x y up down) (0, 0) _ (HS3.out.at 0 rfl) Try.underlying46 rfl infoWdL ?_) | (go_at_call 12; refine (tE2 _ HS3.out.bel).mono ?_; clear tE2; rintro r w4 ⟨x2, y2, g1, g2, rfl, hE1, hE2, hb4⟩; have HE2 : Hid (EVq w4 c x2 ∧ EVq w4 a y2) := ⟨hE1.read, hE2.read⟩; have HB4 : Hid _ := hb4; have HONE : Hid _ := wdC_one (up := up) (down := down) HE2.out.1 HE2.out.2; clear hE1 hE2 hb4) | (refine wpList_store_row rfl 32 _ _ rfl w4.heap.size (wdC c a x2 y2 up down) rfl rfl 32 _ (heap_alloc_last _ _) infoWd rfl HONE.out ?_; rw [World.setRow_alloc_new]))
  have hS5 := (HS3.out.below HB4.out).alloc (wdC c a x2 y2 up down) 32
  have hbA : Below w4.heap.size w4 (w4.alloc (.cells (wdC c a x2 y2 up down) 32)) := (Below.refl _ _).alloc (Nat.le_refl _) _
  have hE5 : EVq (w4.alloc (.cells (wdC c a x2 y2 up down) 32)) c x2 ∧ EVq (w4.alloc (.cells (wdC c a x2 y2 up down) 32)) a y2 := ⟨EdV.below HE2.out.1 hbA, EdV.below HE2.out.2 hbA⟩
  obtain ⟨P, hP⟩ : ∃ P, w4.heap.size = P := ⟨_, rfl⟩
  refine wabsW (fun V => SB w V [(w.heap.size, (wdC c a x y up down), 46), (w4.heap.size, (wdC c a x2 y2 up down), 32)] ∧ (EVq V c x2 ∧ EVq V a y2)) ⟨hS5, hE5⟩ ?_
  clear HS3 HB4 HE2 HONE hS5 hE5 hbA
  rintro V5 ⟨S5, E5⟩
  rw [hP] at S5
  rw [hP]
  have HS5 : Hid _ := S5
  have HE5 : Hid (EVq V5 c x2 ∧ EVq V5 a y2) := E5
  clear S5 E5 hP
  go_upto_region 8 with (first | (refine wpList_load_row rfl 32 _ rfl P rfl 32 (wdC c a x2 y2 up down) (0, 0) _ (HS5.out.at 1 rfl) Try.underlying32 rfl infoWd ?_) | (go_at_call 13; refine (pI _ _ _ HE5.out.1 HE5.out.2).mono ?_; clear pI; rintro r V ⟨rfl, hb6⟩))
  have HS6 : Hid _ := HS5.out.below hb6
  have HE6 : Hid (EVq V c x2 ∧ EVq V a y2) := ⟨EdV.below HE5.out.1 hb6, EdV.below HE5.out.2 hb6⟩
  have HR1 : Hid (V.rangeAt P 0 (wdL c a x2 y2 up down)) := range_blk (HS6.out.at 1 rfl)
  have HR2 : Hid (V.rangeAt w.heap.size 0 (wdL c a x y up down)) := range_blk (HS6.out.at 0 rfl)
  have HBW : Hid _ := HS6.out.bel
  clear HS5 HE5 hb6 HS6
  have hmx : Try.prog.follows .mixedOrders = true := by kernel_rfl
  have hkeepV : ∀ w1 w2 : World, Below w1.heap.size w1 w2 → Below V.heap.size V w1 → Below V.heap.size V w2 := fun w1 w2 hb hB => bt' hB hb
  have hBelV : ∀ w' : World, Below V.heap.size V w' → Below V.heap.size V w' := fun _ h => h
  have hV0 : Below V.heap.size V V := Below.refl _ _
  go_upto_region 10 with fail
  refine wp_region_noPanic ?_
  refine wp_region_held_drew (S := fun w' => Below V.heap.size V w') (by kernel_rfl) ?_ (fun hHeld => ?_)
  · exact hkeepV _ _ ((Below.refl _ _).drew) hV0
  (refine wpAnyH_take (i := 0) (v := .agg (wdL c a x2 y2 up down).toArray) (by simp only [List.getElem?_toArray, List.getElem?_cons_zero]; rfl) (by kernel_rfl) (by kernel_rfl) (by kernel_rfl) (fun _ _ _ h => h) (yieldsIf_load_mid (by kernel_rfl) 32 _ (by rfl) P 0 (by rfl) (wdL c a x2 y2 up down) _ (fun w2 h => range_below HR1.out (hBelV w2 h)) Try.underlying32 (by rfl) infoWd) (by assumption) ?restaV0; try go_frame)
  (refine wpAnyH_take (i := 1) (v := .agg (wdL c a x y up down).toArray) (by simp only [List.getElem?_toArray, List.getElem?_cons_succ, List.getElem?_cons_zero]; rfl) (by kernel_rfl) (by kernel_rfl) (by kernel_rfl) (fun _ _ _ h => h) (yieldsIf_load_mid (by kernel_rfl) 46 _ (by rfl) w.heap.size 0 (by rfl) (wdL c a x y up down) _ (fun w2 h => range_below HR2.out (hBelV w2 h)) Try.underlying46 (by rfl) infoWdL) (by assumption) ?restaV1; try go_frame)
  refine wpAnyH_ready (rs := [2]) (by kernel_rfl) (by simp) ?_
  refine AllReadyH.cons (by simp only [List.getElem?_toArray, List.getElem?_cons_succ, List.getElem?_cons_zero]; rfl) (fun K hK => ?_) AllReadyH.nil
  first | (go_at_call 12; refine (tE3 _ (btF HBW.out (hBelV _ (by assumption)))).mono ?_; clear tE3; rintro r wN ⟨x3, y3, g1, g2, rfl, hE1, hE2, hbN⟩; have hV1 := hE1.read; have hV2 := hE2.read; clear hE1 hE2) | (go_simp; (go_at_call 12; refine (tE3 _ (btF HBW.out (hBelV _ (by assumption)))).mono ?_; clear tE3; rintro r wN ⟨x3, y3, g1, g2, rfl, hE1, hE2, hbN⟩; have hV1 := hE1.read; have hV2 := hE2.read; clear hE1 hE2))
  try (go_wp2_with fail)
  refine hK.out _ _ ?_ (fun hHeld => ?_)
  · (try dsimp only); exact hkeepV _ _ hbN (by assumption)
  clear hK K
  try go_frame
  refine wpAnyH_ready (rs := [3]) (by kernel_rfl) (by simp) ?_
  refine AllReadyH.cons (by simp only [List.getElem?_toArray, List.getElem?_cons_succ, List.getElem?_cons_zero]; rfl) (fun K hK => ?_) AllReadyH.nil
  first | (go_at_call 7; refine (eqWorld_same c a x2 y2 x3 y3 up down _ (EdV.below HE6.out.1 (hBelV _ (by assumption))) (EdV.below HE6.out.2 (hBelV _ (by assumption))) hV1 hV2 (EdLn.of HBD.out.c) (EdLn.of HBD.out.a)).mono ?_; clear hV1 hV2; rintro r wN ⟨rfl, hbN⟩) | (go_simp; (go_at_call 7; refine (eqWorld_same c a x2 y2 x3 y3 up down _ (EdV.below HE6.out.1 (hBelV _ (by assumption))) (EdV.below HE6.out.2 (hBelV _ (by assumption))) hV1 hV2 (EdLn.of HBD.out.c) (EdLn.of HBD.out.a)).mono ?_; clear hV1 hV2; rintro r wN ⟨rfl, hbN⟩))
  try (go_wp2_with fail)
  refine hK.out _ _ ?_ (fun hHeld => ?_)
  · (try dsimp only); exact hkeepV _ _ hbN (by assumption)
  clear hK K
  try go_frame
  (refine wpAnyH_take (i := 4) (v := ?vaV4) (by simp only [List.getElem?_toArray, List.getElem?_cons_succ, List.getElem?_cons_zero]; rfl) (by kernel_rfl) (by kernel_rfl) (by kernel_rfl) (fun _ _ _ h => h) (Or.inl ⟨by kernel_rfl, ?hyaV4⟩) (by assumption) ?restaV4; (case hyaV4 => ((intro w' hSw); (try dsimp only at hSw); go_simp; (try with_reducible rfl))); try go_frame)
  refine wpAnyH_done (by kernel_rfl) ?_ _
  refine NoPanic.normal ?_
  go_wp2_with fail
  go_ret
  exact ⟨rfl, btF HBW.out (hBelV _ (by first | assumption | exact hkeepV _ _ hbN (by assumption)))⟩
end Go.Proofs.Ytdnajdobmlgmiaa
