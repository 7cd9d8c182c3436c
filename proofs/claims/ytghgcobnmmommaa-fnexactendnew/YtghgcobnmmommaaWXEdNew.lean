import Derived.Test.YtghgcobnmmommaaEpG
namespace Go.Proofs.Ytghgcobnmmommaa
open Go.RowKit
set_option linter.unusedVariables false

theorem EdO_V {w : World} {base : Nat} {e : Ed} {o i s q : Value} (h : EdO w base e o i s q) : EdV w e o i s q := h.read
set_option maxRecDepth 100000 in
set_option maxHeartbeats 8000000 in
theorem fnExactEndNew_walk (a : Bool) (w : World) :
    Calls Try.prog 4 #[.bool a] w fun e w' => e = .returned (.bool true) ∧ Below w.heap.size w w' := by
  have hone : Hid ((nilE (edNew a)).all (·.oneCell') = true) := edC_one2 (EdV_new w a)
  obtain ⟨E, hE⟩ : ∃ E, edNew a = E := ⟨_, rfl⟩
  have hsp := fun W => specEndNew a W
  have him := fun W => implEndNew a W
  have hev := fun W => EdV_new W a
  have hln := EdLn_new a
  rw [hE] at hsp him hev hln hone
  have HEV : Hid _ := hev
  have HLN : Hid _ := hln
  have heq := fun W (o i s q : Value) (h : EdV W E o i s q) => eqEnd_same E _ _ _ _ o i s q W (HEV.out W) h HLN.out
  have hmk := fun W => markEnd_nil E 1 W (by decide)
  have hhe := fun W => heldEnd_nil E 1 W (by decide)
  clear hE hev hln
  go_enter Try.func4, Try.ntmps4
  go_upto_region 2 with (first | (go_at_call 9; refine (hsp _).mono ?_; clear hsp; rintro r w1 ⟨o, i, s, q, rfl, hO, hb1⟩; have HV1 : Hid (EdV w1 E o i s q) := hO.read; have HB1 : Hid _ := hb1; have HONE : Hid _ := edC_one2 HV1.out; clear hO hb1) | (refine wpList_store_row rfl 32 _ _ rfl w1.heap.size (edC E o i s q) rfl rfl 32 _ (heap_alloc_last _ _) infoEd rfl HONE.out ?_; rw [World.setRow_alloc_new]))
  have hS1 := ((SB.start w).below HB1.out).alloc (edC E o i s q) 32
  have hV2 : EdV (w1.alloc (.cells (edC E o i s q) 32)) E o i s q := EdV.below HV1.out ((Below.refl _ _).alloc (Nat.le_refl _) _)
  obtain ⟨P, hP⟩ : ∃ P, w1.heap.size = P := ⟨_, rfl⟩
  refine wabsW (fun V => SB w V [(w1.heap.size, edC E o i s q, 32)] ∧ EdV V E o i s q) ⟨hS1, hV2⟩ ?_
  clear HB1 HV1 HONE hS1 hV2
  rintro V2 ⟨S2, E2⟩
  rw [hP] at S2
  rw [hP]
  have HS2 : Hid _ := S2
  have HE2 : Hid (EdV V2 E o i s q) := E2
  clear S2 E2 hP
  have him2 := him
  go_upto_region 3 with (first | (go_at_call 7; refine (him _).mono ?_; clear him; rintro r w2 ⟨rfl, hb2⟩; have HB2 : Hid _ := hb2; clear hb2) | (refine wpList_store_row rfl 32 _ _ rfl w2.heap.size (nilE E) rfl rfl 32 _ (heap_alloc_last _ _) infoEd rfl hone.out ?_; rw [World.setRow_alloc_new]))
  have hS3 := (HS2.out.below HB2.out).alloc (nilE E) 32
  have hV3 : EdV (w2.alloc (.cells (nilE E) 32)) E o i s q := EdV.below (EdV.below HE2.out HB2.out) ((Below.refl _ _).alloc (Nat.le_refl _) _)
  obtain ⟨Q, hQ⟩ : ∃ Q, w2.heap.size = Q := ⟨_, rfl⟩
  refine wabsW (fun V => SB w V [(P, edC E o i s q, 32), (w2.heap.size, nilE E, 32)] ∧ EdV V E o i s q) ⟨hS3, hV3⟩ ?_
  clear HS2 HE2 HB2 hS3 hV3
  rintro V3 ⟨S3, E3⟩
  rw [hQ] at S3
  rw [hQ]
  have HS3 : Hid _ := S3
  have HE3 : Hid (EdV V3 E o i s q) := E3
  clear S3 E3 hQ
  go_upto_region 5 with (first | (refine wpList_load_row rfl 32 _ rfl P rfl 32 (edC E o i s q) (0, 0) _ (HS3.out.at 0 rfl) Try.underlying32 rfl infoEd ?_) | (refine wpList_load_row rfl 32 _ rfl Q rfl 32 (nilE E) (0, 0) _ (HS3.out.at 1 rfl) Try.underlying32 rfl infoEd ?_) | (go_at_call 13; refine (heq _ _ _ _ _ HE3.out).mono ?_; rintro r w3 ⟨rfl, hb3⟩; have HB3 : Hid _ := hb3; clear hb3))
  have HS4 : Hid _ := HS3.out.below HB3.out
  have HE4 : Hid (EdV w3 E o i s q) := EdV.below HE3.out HB3.out
  clear HS3 HE3 HB3
  go_upto_region 7 with (first | (refine wpList_load_row rfl 32 _ rfl Q rfl 32 (nilE E) (0, 0) _ (HS4.out.at 1 rfl) Try.underlying32 rfl infoEd ?_) | (go_at_call 14; refine (hmk _).mono ?_; rintro r w4 ⟨rfl, hb4⟩; have HB4 : Hid _ := hb4; clear hb4))
  have HS5 : Hid _ := HS4.out.below HB4.out
  have HE5 : Hid (EdV w4 E o i s q) := EdV.below HE4.out HB4.out
  clear HS4 HE4 HB4
  go_upto_region 13 with (first | (refine wpList_load_row rfl 32 _ rfl Q rfl 32 (nilE E) (0, 0) _ (HS5.out.at 1 rfl) Try.underlying32 rfl infoEd ?_) | (go_at_call 15; refine (hhe _).mono ?_; rintro r w5 ⟨rfl, hb5⟩; have HB5 : Hid _ := hb5; clear hb5))
  have HS6 : Hid _ := HS5.out.below HB5.out
  have HE6 : Hid (EdV w5 E o i s q) := EdV.below HE5.out HB5.out
  clear HS5 HE5 HB5
  go_upto_region 14 with (first | (go_at_call 7; refine (him2 _).mono ?_; clear him2; rintro r w6 ⟨rfl, hb6⟩; have HB6 : Hid _ := hb6; clear hb6) | (refine wpList_store_row rfl 32 _ _ rfl w6.heap.size (nilE E) rfl rfl 32 _ (heap_alloc_last _ _) infoEd rfl hone.out ?_; rw [World.setRow_alloc_new]))
  have hS7 := (HS6.out.below HB6.out).alloc (nilE E) 32
  have hV7 : EdV (w6.alloc (.cells (nilE E) 32)) E o i s q := EdV.below (EdV.below HE6.out HB6.out) ((Below.refl _ _).alloc (Nat.le_refl _) _)
  obtain ⟨R, hR⟩ : ∃ R, w6.heap.size = R := ⟨_, rfl⟩
  refine wabsW (fun V => SB w V [(P, edC E o i s q, 32), (Q, nilE E, 32), (w6.heap.size, nilE E, 32)] ∧ EdV V E o i s q) ⟨hS7, hV7⟩ ?_
  clear HS6 HE6 HB6 hS7 hV7
  rintro V7 ⟨S7, E7⟩
  rw [hR] at S7
  rw [hR]
  have HS7 : Hid _ := S7
  have HE7 : Hid (EdV V7 E o i s q) := E7
  clear S7 E7 hR
  go_upto_region 16 with (first | (refine wpList_load_row rfl 32 _ rfl P rfl 32 (edC E o i s q) (0, 0) _ (HS7.out.at 0 rfl) Try.underlying32 rfl infoEd ?_) | (refine wpList_load_row rfl 32 _ rfl R rfl 32 (nilE E) (0, 0) _ (HS7.out.at 2 rfl) Try.underlying32 rfl infoEd ?_) | (go_at_call 13; refine (heq _ _ _ _ _ HE7.out).mono ?_; rintro r w7 ⟨rfl, hb7⟩; have HB7 : Hid _ := hb7; clear hb7))
  have HS8 : Hid _ := HS7.out.below HB7.out
  clear HS7 HE7 HB7
  go_wp2_with (first | (refine wpList_load_row rfl 32 _ rfl Q rfl 32 (nilE E) (0, 0) _ (HS8.out.at 1 rfl) Try.underlying32 rfl infoEd ?_) | (go_at_call 15; refine (hhe _).mono ?_; rintro r w8 ⟨rfl, hb8⟩; have HB8 : Hid _ := hb8; clear hb8))
  go_ret
  exact ⟨rfl, (HS8.out.below HB8.out).bel⟩
end Go.Proofs.Ytghgcobnmmommaa
