import Derived.Test.YtdnajdobmlgmiaaEpW3
import Derived.Test.YtdnajdobmlgmiaaEpG
namespace Go.Proofs.Ytdnajdobmlgmiaa
open Go.RowKit
set_option linter.unusedVariables false

/-- An end without anything outlives whatever is done to a block of worlds. -/
theorem EdV_kt {w w' : World} {a : Bool} {x : Q4} (h : EVq w (edNew a) x) (k : KtT 32 w w') : EVq w' (edNew a) x := by
  obtain ⟨⟨a1, n1, c1, e1, f1⟩, ⟨a2, n2, c2, e2, f2⟩, ⟨xs, ⟨a3, c3, e3, r3⟩, m3⟩, ⟨a4, c4, e4, r4⟩⟩ := h
  have hx : xs = [] := m3
  subst hx
  have hf : ∀ {a n c}, Fs w a n c [] → Fs w' a n c [] := fun {a n c} f => ⟨f.len, f.le, f.cmax, (by intro g o e j u hu; simp [cellsF] at hu), f.some', f.form⟩
  have hr : ∀ {a n c z}, Rw w a n c z [] → Rw w' a n c z [] := fun {a n c z} r => ⟨r.len, r.le, r.cmax, (by intro g o e j u hu; simp at hu), r.form⟩
  exact ⟨⟨a1, n1, c1, e1, hf f1⟩, ⟨a2, n2, c2, e2, hf f2⟩, ⟨[], ⟨a3, c3, e3, hr r3⟩, rfl⟩, ⟨a4, c4, e4, hr r4⟩⟩
set_option maxRecDepth 100000 in
set_option maxHeartbeats 8000000 in
theorem specWorldNew (w : World) :
    Calls Try.prog 5 #[] w fun r w' => ∃ x y : Q4, r = .returned (.agg (wdC (edNew false) (edNew true) x y eB eB)) ∧ EVq w' (edNew false) x ∧ EVq w' (edNew true) y ∧ Below w.heap.size w w' := by
  have S0 := (SB.start w).alloc zWdC 32
  have HS0 : Hid _ := S0
  have p1 := fun W => specEndNew false W
  have p2 := fun W => specEndNew true W
  unfold edC edNew at p1 p2
  dsimp only at p1 p2
  clear S0
  go_enter Try.func5, Try.ntmps5
  go_upto_region 1 with fail
  refine wabsW (fun V => SB w V [(w.heap.size, zWdC, 32)]) HS0.out ?_
  clear HS0
  rintro V1 S1
  have HS1 : Hid _ := S1
  clear S1
  go_wp2_with (first | (go_at_call 14; refine (p1 _).mono ?_; clear p1; rintro r w1 ⟨o1, i1, s1, q1, rfl, hO1, hb1⟩; have HO1 : Hid (EVq w1 (edNew false) ⟨o1, i1, s1, q1⟩) := hO1.read; have HB1 : Hid _ := hb1; clear hO1 hb1) | (go_at_call 14; refine (p2 _).mono ?_; clear p2; rintro r w2 ⟨o2, i2, s2, q2, rfl, hO2, hb2⟩; have HO2 : Hid (EVq w2 (edNew true) ⟨o2, i2, s2, q2⟩) := hO2.read; have HB2 : Hid _ := hb2; have HR2 : Hid _ := ((HS1.out.below HB1.out).below HB2.out).at 0 rfl; have HV1 : Hid (EVq w2 (edNew false) ⟨o1, i1, s1, q1⟩) := EdV.below HO1.out HB2.out; have HONE : Hid _ := wdC_one (up := eB) (down := eB) HV1.out HO2.out; clear hO2 hb2) | (refine wpList_store_row rfl 32 _ _ rfl w.heap.size (wdC (edNew false) (edNew true) ⟨o1, i1, s1, q1⟩ ⟨o2, i2, s2, q2⟩ eB eB) rfl rfl 32 _ HR2.out infoWd rfl HONE.out ?_))
  have hk : Kp (fun g => g = w.heap.size) w2 (w2.setRow w.heap.size (wdC (edNew false) (edNew true) ⟨o1, i1, s1, q1⟩ ⟨o2, i2, s2, q2⟩ eB eB)) := Kp.grown (grown_setRowT _ _ _) (fun g e => by injection e with e; exact e.symm)
  have hS := ((HS1.out.below HB1.out).below HB2.out).row 0 rfl (wdC (edNew false) (edNew true) ⟨o1, i1, s1, q1⟩ ⟨o2, i2, s2, q2⟩ eB eB)
  exact bodyPost_ret (results_cW rfl _ _ w.heap.size _ rfl (load_wd (setRow_heap _ _ _ _ _ _ HR2.out))) rfl ⟨⟨o1, i1, s1, q1⟩, ⟨o2, i2, s2, q2⟩, rfl, EdV_kt HV1.out (KtT.kp HR2.out hk), EdV_kt HO2.out (KtT.kp HR2.out hk), hS.bel⟩
set_option maxRecDepth 100000 in
set_option maxHeartbeats 8000000 in
theorem implWorldNew (w : World) :
    Calls Try.prog 6 #[] w fun r w' => r = .returned (.agg (wdC (edNew false) (edNew true) nilQ nilQ eB eB)) ∧ Below w.heap.size w w' := by
  have S0 := (SB.start w).alloc zWdC 32
  have HS0 : Hid _ := S0
  have p1 := fun W => implEndNew false W
  have p2 := fun W => implEndNew true W
  unfold nilE edC edNew at p1 p2
  dsimp only at p1 p2
  clear S0
  go_enter Try.func6, Try.ntmps6
  go_upto_region 1 with fail
  refine wabsW (fun V => SB w V [(w.heap.size, zWdC, 32)]) HS0.out ?_
  clear HS0
  rintro V1 S1
  have HS1 : Hid _ := S1
  clear S1
  go_wp2_with (first | (go_at_call 15; refine (p1 _).mono ?_; clear p1; rintro r w1 ⟨rfl, hb1⟩; have HB1 : Hid _ := hb1; clear hb1) | (go_at_call 15; refine (p2 _).mono ?_; clear p2; rintro r w2 ⟨rfl, hb2⟩; have HB2 : Hid _ := hb2; have HR2 : Hid _ := ((HS1.out.below HB1.out).below HB2.out).at 0 rfl; have HONE : Hid _ := wdC_one (x := nilQ) (y := nilQ) (up := eB) (down := eB) (EdV_new w2 false) (EdV_new w2 true); clear hb2) | (refine wpList_store_row rfl 32 _ _ rfl w.heap.size (wdC (edNew false) (edNew true) nilQ nilQ eB eB) rfl rfl 32 _ HR2.out infoWd rfl HONE.out ?_))
  have hS := ((HS1.out.below HB1.out).below HB2.out).row 0 rfl (wdC (edNew false) (edNew true) nilQ nilQ eB eB)
  exact bodyPost_ret (results_cW rfl _ _ w.heap.size _ rfl (load_wd (setRow_heap _ _ _ _ _ _ HR2.out))) rfl ⟨rfl, hS.bel⟩
set_option maxRecDepth 100000 in
set_option maxHeartbeats 4000000 in
theorem markWorld_nil (c a : Ed) (up down : ByteArray) (k : Int) (w : World) (hk : 0 ≤ k) :
    Calls Try.prog 8 #[.agg (wdC c a nilQ nilQ up down), .int .i64 k] w fun r w' => r = .returned (.int .i64 k) ∧ Below w.heap.size w w' := by
  have S0 := (SB.start w).alloc (wdC c a nilQ nilQ up down) 32
  have HS0 : Hid _ := S0
  have p1 := fun W => markEnd_nil c k W hk
  have p2 := fun W => markEnd_nil a k W hk
  have hd : decide (k < 0) = false := by rw [decide_eq_false_iff_not]; omega
  have hd2 : ¬ k < 0 := by omega
  clear S0
  go_enter Try.func8, Try.ntmps8
  go_upto_region 1 with fail
  refine wabsW (fun V => SB w V [(w.heap.size, wdC c a nilQ nilQ up down, 32)]) HS0.out ?_
  clear HS0
  rintro V1 S1
  have HS1 : Hid _ := S1
  clear S1
  go_upto_region 2 with (first | (refine wpList_load_mid rfl 30 _ rfl w.heap.size 0 rfl (enL c nilQ) _ (range_wd1 (HS1.out.at 0 rfl)) Try.underlying30 rfl infoEd ?_) | (go_at_call 17; refine (p1 _).mono ?_; clear p1; rintro r w1 ⟨rfl, hb1⟩))
  have HS2 : Hid _ := HS1.out.below hb1
  clear HS1 hb1
  go_wp2_with (first | (refine wpList_load_mid rfl 30 _ rfl w.heap.size 11 rfl (enL a nilQ) _ (range_wd2 (HS2.out.at 0 rfl)) Try.underlying30 rfl infoEd ?_) | (go_at_call 17; refine (p2 _).mono ?_; clear p2; rintro r w2 ⟨rfl, hb2⟩))
  go_ret
  exact ⟨rfl, btF HS2.out.bel hb2⟩
set_option maxRecDepth 100000 in
set_option maxHeartbeats 4000000 in
theorem heldWorld_nil (c a : Ed) (up down : ByteArray) (k : Int) (w : World) (hk : 0 ≤ k) :
    Calls Try.prog 9 #[.agg (wdC c a nilQ nilQ up down), .int .i64 k] w fun r w' => r = .returned (.int .i64 k) ∧ Below w.heap.size w w' := by
  have S0 := (SB.start w).alloc (wdC c a nilQ nilQ up down) 32
  have HS0 : Hid _ := S0
  have p1 := fun W => heldEnd_nil c k W hk
  have p2 := fun W => heldEnd_nil a k W hk
  have hd : decide (k < 0) = false := by rw [decide_eq_false_iff_not]; omega
  have hd2 : ¬ k < 0 := by omega
  clear S0
  go_enter Try.func9, Try.ntmps9
  go_upto_region 1 with fail
  refine wabsW (fun V => SB w V [(w.heap.size, wdC c a nilQ nilQ up down, 32)]) HS0.out ?_
  clear HS0
  rintro V1 S1
  have HS1 : Hid _ := S1
  clear S1
  go_upto_region 2 with (first | (refine wpList_load_mid rfl 30 _ rfl w.heap.size 0 rfl (enL c nilQ) _ (range_wd1 (HS1.out.at 0 rfl)) Try.underlying30 rfl infoEd ?_) | (go_at_call 18; refine (p1 _).mono ?_; clear p1; rintro r w1 ⟨rfl, hb1⟩))
  have HS2 : Hid _ := HS1.out.below hb1
  clear HS1 hb1
  go_wp2_with (first | (refine wpList_load_mid rfl 30 _ rfl w.heap.size 11 rfl (enL a nilQ) _ (range_wd2 (HS2.out.at 0 rfl)) Try.underlying30 rfl infoEd ?_) | (go_at_call 18; refine (p2 _).mono ?_; clear p2; rintro r w2 ⟨rfl, hb2⟩))
  go_ret
  exact ⟨rfl, btF HS2.out.bel hb2⟩
end Go.Proofs.Ytdnajdobmlgmiaa
