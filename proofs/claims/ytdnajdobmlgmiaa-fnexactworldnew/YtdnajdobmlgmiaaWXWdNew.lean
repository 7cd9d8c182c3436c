import Derived.Test.YtdnajdobmlgmiaaEpW4
namespace Go.Proofs.Ytdnajdobmlgmiaa
open Go.RowKit
set_option linter.unusedVariables false

theorem EV2 {w w' : World} {C A : Ed} {x y : Q4} (h : EVq w C x ∧ EVq w A y) (hb : Below w.heap.size w w') : EVq w' C x ∧ EVq w' A y := ⟨EdV.below h.1 hb, EdV.below h.2 hb⟩
set_option maxRecDepth 100000 in
set_option maxHeartbeats 8000000 in
theorem fnExactWorldNew_walk (w : World) :
    Calls Try.prog 3 #[] w fun e w' => e = .returned (.bool true) ∧ Below w.heap.size w w' := by
  obtain ⟨C, hC⟩ : ∃ C, edNew false = C := ⟨_, rfl⟩
  obtain ⟨A, hA⟩ : ∃ A, edNew true = A := ⟨_, rfl⟩
  have hsp := fun W => specWorldNew W
  have him := fun W => implWorldNew W
  have hev1 := fun W => EdV_new W false
  have hev2 := fun W => EdV_new W true
  have hl1 := EdLn_new false
  have hl2 := EdLn_new true
  rw [hC, hA] at hsp him
  rw [hC] at hev1 hl1
  rw [hA] at hev2 hl2
  have HE1 : Hid (∀ W, EVq W C nilQ) := hev1
  have HE2 : Hid (∀ W, EVq W A nilQ) := hev2
  have HL1 : Hid _ := hl1
  have HL2 : Hid _ := hl2
  have hone : Hid ((wdC C A nilQ nilQ eB eB).all (·.oneCell') = true) := wdC_one (HE1.out w) (HE2.out w)
  have heq := fun W (x y : Q4) (h : EVq W C x) (k : EVq W A y) => eqWorld_same C A nilQ nilQ x y eB eB W (HE1.out W) (HE2.out W) h k HL1.out HL2.out
  have hmk := fun W => markWorld_nil C A eB eB 1 W (by decide)
  have hhe := fun W => heldWorld_nil C A eB eB 1 W (by decide)
  clear hC hA hev1 hev2 hl1 hl2
  go_enter Try.func3, Try.ntmps3
  go_upto_region 2 with (first | (go_at_call 5; refine (hsp _).mono ?_; clear hsp; rintro r w1 ⟨x, y, rfl, hO1, hO2, hb1⟩; have HV1 : Hid (EVq w1 C x ∧ EVq w1 A y) := ⟨hO1, hO2⟩; have HB1 : Hid _ := hb1; have HONE : Hid _ := wdC_one (up := eB) (down := eB) HV1.out.1 HV1.out.2; clear hO1 hO2 hb1) | (refine wpList_store_row rfl 32 _ _ rfl w1.heap.size (wdC C A x y eB eB) rfl rfl 32 _ (heap_alloc_last _ _) infoWd rfl HONE.out ?_; rw [World.setRow_alloc_new]))
  have hS1 := ((SB.start w).below HB1.out).alloc (wdC C A x y eB eB) 32
  have hV2 : (EVq (w1.alloc (.cells (wdC C A x y eB eB) 32)) C x ∧ EVq (w1.alloc (.cells (wdC C A x y eB eB) 32)) A y) := EV2 HV1.out ((Below.refl _ _).alloc (Nat.le_refl _) _)
  obtain ⟨P, hP⟩ : ∃ P, w1.heap.size = P := ⟨_, rfl⟩
  refine wabsW (fun V => SB w V [(w1.heap.size, wdC C A x y eB eB, 32)] ∧ (EVq V C x ∧ EVq V A y)) ⟨hS1, hV2⟩ ?_
  clear HB1 HV1 HONE hS1 hV2
  rintro V2 ⟨S2, E2⟩
  rw [hP] at S2
  rw [hP]
  have HS2 : Hid _ := S2
  have HW2 : Hid ((EVq V2 C x ∧ EVq V2 A y)) := E2
  clear S2 E2 hP
  have him2 := him
  go_upto_region 3 with (first | (go_at_call 6; refine (him _).mono ?_; clear him; rintro r w2 ⟨rfl, hb2⟩; have HB2 : Hid _ := hb2; clear hb2) | (refine wpList_store_row rfl 32 _ _ rfl w2.heap.size (wdC C A nilQ nilQ eB eB) rfl rfl 32 _ (heap_alloc_last _ _) infoWd rfl hone.out ?_; rw [World.setRow_alloc_new]))
  have hS3 := (HS2.out.below HB2.out).alloc (wdC C A nilQ nilQ eB eB) 32
  have hV3 : (EVq (w2.alloc (.cells (wdC C A nilQ nilQ eB eB) 32)) C x ∧ EVq (w2.alloc (.cells (wdC C A nilQ nilQ eB eB) 32)) A y) := EV2 (EV2 HW2.out HB2.out) ((Below.refl _ _).alloc (Nat.le_refl _) _)
  obtain ⟨Q, hQ⟩ : ∃ Q, w2.heap.size = Q := ⟨_, rfl⟩
  refine wabsW (fun V => SB w V [(P, wdC C A x y eB eB, 32), (w2.heap.size, wdC C A nilQ nilQ eB eB, 32)] ∧ (EVq V C x ∧ EVq V A y)) ⟨hS3, hV3⟩ ?_
  clear HS2 HW2 HB2 hS3 hV3
  rintro V3 ⟨S3, E3⟩
  rw [hQ] at S3
  rw [hQ]
  have HS3 : Hid _ := S3
  have HW3 : Hid ((EVq V3 C x ∧ EVq V3 A y)) := E3
  clear S3 E3 hQ
  go_upto_region 5 with (first | (refine wpList_load_row rfl 32 _ rfl P rfl 32 (wdC C A x y eB eB) (0, 0) _ (HS3.out.at 0 rfl) Try.underlying32 rfl infoWd ?_) | (refine wpList_load_row rfl 32 _ rfl Q rfl 32 (wdC C A nilQ nilQ eB eB) (0, 0) _ (HS3.out.at 1 rfl) Try.underlying32 rfl infoWd ?_) | (go_at_call 7; refine (heq _ _ _ HW3.out.1 HW3.out.2).mono ?_; rintro r w3 ⟨rfl, hb3⟩; have HB3 : Hid _ := hb3; clear hb3))
  have HS4 : Hid _ := HS3.out.below HB3.out
  have HW4 : Hid ((EVq w3 C x ∧ EVq w3 A y)) := EV2 HW3.out HB3.out
  clear HS3 HW3 HB3
  go_upto_region 7 with (first | (refine wpList_load_row rfl 32 _ rfl Q rfl 32 (wdC C A nilQ nilQ eB eB) (0, 0) _ (HS4.out.at 1 rfl) Try.underlying32 rfl infoWd ?_) | (go_at_call 8; refine (hmk _).mono ?_; rintro r w4 ⟨rfl, hb4⟩; have HB4 : Hid _ := hb4; clear hb4))
  have HS5 : Hid _ := HS4.out.below HB4.out
  have HW5 : Hid ((EVq w4 C x ∧ EVq w4 A y)) := EV2 HW4.out HB4.out
  clear HS4 HW4 HB4
  go_upto_region 13 with (first | (refine wpList_load_row rfl 32 _ rfl Q rfl 32 (wdC C A nilQ nilQ eB eB) (0, 0) _ (HS5.out.at 1 rfl) Try.underlying32 rfl infoWd ?_) | (go_at_call 9; refine (hhe _).mono ?_; rintro r w5 ⟨rfl, hb5⟩; have HB5 : Hid _ := hb5; clear hb5))
  have HS6 : Hid _ := HS5.out.below HB5.out
  have HW6 : Hid ((EVq w5 C x ∧ EVq w5 A y)) := EV2 HW5.out HB5.out
  clear HS5 HW5 HB5
  go_upto_region 14 with (first | (go_at_call 6; refine (him2 _).mono ?_; clear him2; rintro r w6 ⟨rfl, hb6⟩; have HB6 : Hid _ := hb6; clear hb6) | (refine wpList_store_row rfl 32 _ _ rfl w6.heap.size (wdC C A nilQ nilQ eB eB) rfl rfl 32 _ (heap_alloc_last _ _) infoWd rfl hone.out ?_; rw [World.setRow_alloc_new]))
  have hS7 := (HS6.out.below HB6.out).alloc (wdC C A nilQ nilQ eB eB) 32
  have hV7 : (EVq (w6.alloc (.cells (wdC C A nilQ nilQ eB eB) 32)) C x ∧ EVq (w6.alloc (.cells (wdC C A nilQ nilQ eB eB) 32)) A y) := EV2 (EV2 HW6.out HB6.out) ((Below.refl _ _).alloc (Nat.le_refl _) _)
  obtain ⟨R, hR⟩ : ∃ R, w6.heap.size = R := ⟨_, rfl⟩
  refine wabsW (fun V => SB w V [(P, wdC C A x y eB eB, 32), (Q, wdC C A nilQ nilQ eB eB, 32), (w6.heap.size, wdC C A nilQ nilQ eB eB, 32)] ∧ (EVq V C x ∧ EVq V A y)) ⟨hS7, hV7⟩ ?_
  clear HS6 HW6 HB6 hS7 hV7
  rintro V7 ⟨S7, E7⟩
  rw [hR] at S7
  rw [hR]
  have HS7 : Hid _ := S7
  have HW7 : Hid ((EVq V7 C x ∧ EVq V7 A y)) := E7
  clear S7 E7 hR
  go_upto_region 16 with (first | (refine wpList_load_row rfl 32 _ rfl P rfl 32 (wdC C A x y eB eB) (0, 0) _ (HS7.out.at 0 rfl) Try.underlying32 rfl infoWd ?_) | (refine wpList_load_row rfl 32 _ rfl R rfl 32 (wdC C A nilQ nilQ eB eB) (0, 0) _ (HS7.out.at 2 rfl) Try.underlying32 rfl infoWd ?_) | (go_at_call 7; refine (heq _ _ _ HW7.out.1 HW7.out.2).mono ?_; rintro r w7 ⟨rfl, hb7⟩; have HB7 : Hid _ := hb7; clear hb7))
  have HS8 : Hid _ := HS7.out.below HB7.out
  clear HS7 HW7 HB7
  go_wp2_with (first | (refine wpList_load_row rfl 32 _ rfl Q rfl 32 (wdC C A nilQ nilQ eB eB) (0, 0) _ (HS8.out.at 1 rfl) Try.underlying32 rfl infoWd ?_) | (go_at_call 9; refine (hhe _).mono ?_; rintro r w8 ⟨rfl, hb8⟩; have HB8 : Hid _ := hb8; clear hb8))
  go_ret
  exact ⟨rfl, (HS8.out.below HB8.out).bel⟩
end Go.Proofs.Ytdnajdobmlgmiaa
