import Derived.Test.YtdnajdobmlgmiaaEpW2
namespace Go.Proofs.Ytdnajdobmlgmiaa
open Go.RowKit
set_option linter.unusedVariables false

set_option maxRecDepth 100000 in
set_option maxHeartbeats 8000000 in
theorem eqWorld_same (c a : Ed) (x1 y1 x2 y2 : Q4) (up down : ByteArray) (w : World) (h1 : EVq w c x1) (h2 : EVq w a y1) (h3 : EVq w c x2) (h4 : EVq w a y2) (hlc : EdLn c) (hla : EdLn a) :
    Calls Try.prog 7 #[.agg (wdC c a x1 y1 up down), .agg (wdC c a x2 y2 up down)] w fun r w' => r = .returned (.bool true) ∧ Below w.heap.size w w' := by
  have S0 := ((SB.start w).alloc (wdC c a x1 y1 up down) 32).alloc (wdC c a x2 y2 up down) 32
  simp only [World.size_alloc] at S0
  have HS0 : Hid _ := S0
  have p1 := fun W (h : Below w.heap.size w W) => eqEnd_same c x1.o x1.i x1.s x1.q x2.o x2.i x2.s x2.q W (EdV.below h1 h) (EdV.below h3 h) hlc
  have p2 := fun W (h : Below w.heap.size w W) => eqEnd_same a y1.o y1.i y1.s y1.q y2.o y2.i y2.s y2.q W (EdV.below h2 h) (EdV.below h4 h) hla
  clear S0
  have HH : Hid (EVq w c x1 ∧ EVq w a y1 ∧ EVq w c x2 ∧ EVq w a y2) := ⟨h1, h2, h3, h4⟩
  clear h1 h2 h3 h4
  go_enter Try.func7, Try.ntmps7
  go_upto_region 1 with fail
  refine wabsW (fun V => SB w V [(w.heap.size, wdC c a x1 y1 up down, 32), (w.heap.size + 1, wdC c a x2 y2 up down, 32)]) HS0.out ?_
  clear HS0
  rintro V1 S1
  have HS1 : Hid _ := S1
  clear S1
  go_upto_region 3 with (first | (refine wpList_load_mid rfl 30 _ rfl w.heap.size 0 rfl (enL c x1) _ (range_wd1 (HS1.out.at 0 rfl)) Try.underlying30 rfl infoEd ?_) | (refine wpList_load_mid rfl 30 _ rfl (w.heap.size + 1) 0 rfl (enL c x2) _ (range_wd1 (HS1.out.at 1 rfl)) Try.underlying30 rfl infoEd ?_) | (go_at_call 16; refine (p1 _ HS1.out.bel).mono ?_; clear p1; rintro r w1 ⟨rfl, hb1⟩))
  have HS2 : Hid _ := HS1.out.below hb1
  clear HS1 hb1
  go_upto_region 5 with (first | (refine wpList_load_mid rfl 30 _ rfl w.heap.size 11 rfl (enL a y1) _ (range_wd2 (HS2.out.at 0 rfl)) Try.underlying30 rfl infoEd ?_) | (refine wpList_load_mid rfl 30 _ rfl (w.heap.size + 1) 11 rfl (enL a y2) _ (range_wd2 (HS2.out.at 1 rfl)) Try.underlying30 rfl infoEd ?_) | (go_at_call 16; refine (p2 _ HS2.out.bel).mono ?_; clear p2; rintro r w2 ⟨rfl, hb2⟩))
  have HS3 : Hid _ := HS2.out.below hb2
  clear HS2 hb2
  have c22 := cellE (HS3.out.at 0 rfl) 22 (.string up) rfl
  have c23 := cellE (HS3.out.at 0 rfl) 23 (.string down) rfl
  have d22 := cellE (HS3.out.at 1 rfl) 22 (.string up) rfl
  have d23 := cellE (HS3.out.at 1 rfl) 23 (.string down) rfl
  go_wp2
  go_ret
  exact ⟨rfl, HS3.out.bel⟩

set_option maxRecDepth 100000 in
set_option maxHeartbeats 8000000 in
theorem szWorld_any (c a : Ed) (x y : Q4) (up down : ByteArray) (left : Int) (w : World) (hA : WdA w c a x y up down) (l0 : 0 ≤ left) (l1 : left ≤ 1048576) :
    Calls Try.prog 10 #[.agg (wdC c a x y up down), .int .i64 left] w fun r w' => ∃ z : Int, r = .returned (.int .i64 z) ∧ (z = -1 ∨ (0 ≤ z ∧ WdBd c a up down)) ∧ Below w.heap.size w w' := by
  have S0 := (SB.start w).alloc (wdC c a x y up down) 46
  have HS0 : Hid _ := S0
  have HA : Hid _ := hA
  have hu := hA.up
  have hd := hA.down
  unfold maxLen at hu hd
  have p1 := fun W (h : Below w.heap.size w W) => szEnd_any c x.o x.i x.s x.q left W (HA.out.c.below h) l0 l1
  have p2 := fun (z : Int) W (h : Below w.heap.size w W) (z0 : 0 ≤ z) (z1 : z ≤ 1048576) => szEnd_any a y.o y.i y.s y.q z W (HA.out.a.below h) z0 z1
  have HP2 : Hid _ := p2
  clear S0 hA p2
  go_enter Try.func10, Try.ntmps10
  go_upto_region 1 with fail
  refine wabsW (fun V => SB w V [(w.heap.size, wdC c a x y up down, 46)]) HS0.out ?_
  clear HS0
  rintro V1 S1
  have HS1 : Hid _ := S1
  clear S1
  go_upto_region 2 with (first | (refine wpList_load_mid rfl 44 _ rfl w.heap.size 0 rfl (enL c x) _ (range_wd1 (HS1.out.at 0 rfl)) Try.underlying44 rfl infoEdW ?_) | (go_at_call 19; refine (p1 _ HS1.out.bel).mono ?_; clear p1; rintro r w1 ⟨z1, rfl, hz1, hb1⟩))
  have HS2 : Hid _ := HS1.out.below hb1
  clear HS1 hb1
  rcases hz1 with rfl | ⟨a0, a1, abd⟩
  · clear HP2
    go_wp2
    go_ret
    exact ⟨-1, rfl, .inl rfl, HS2.out.bel⟩
  have HBC : Hid _ := abd
  clear abd
  have d1 : decide (z1 < 0) = false := by rw [decide_eq_false_iff_not]; omega
  have p2 := HP2.out z1 w1 HS2.out.bel a0 (by omega)
  go_upto_region 5 with (first | (refine wpList_load_mid rfl 44 _ rfl w.heap.size 11 rfl (enL a y) _ (range_wd2 (HS2.out.at 0 rfl)) Try.underlying44 rfl infoEdW ?_) | (go_at_call 19; refine p2.mono ?_; clear p2; rintro r w2 ⟨z2, rfl, hz2, hb2⟩))
  have HS3 : Hid _ := HS2.out.below hb2
  clear HS2 hb2 HP2
  rcases hz2 with rfl | ⟨b0, b1, bbd⟩
  · go_wp2
    go_ret
    exact ⟨-1, rfl, .inl rfl, HS3.out.bel⟩
  have HBA : Hid _ := bbd
  clear bbd
  have HBD : Hid (WdBd c a up down) := ⟨HBC.out, HBA.out, HA.out.up, HA.out.down⟩
  have d2 : decide (z2 < 0) = false := by rw [decide_eq_false_iff_not]; omega
  have c22 := cellE (HS3.out.at 0 rfl) 22 (.string up) rfl
  have c23 := cellE (HS3.out.at 0 rfl) 23 (.string down) rfl
  have w1' : IntKind.i64.wrap (z2 - (up.size : Int)) = z2 - (up.size : Int) := by rw [IntKind.wrap_i64]; omega
  by_cases k1 : z2 - (up.size : Int) < 0
  · have dk : decide (z2 - (up.size : Int) < 0) = true := by simpa using k1
    go_wp2
    go_ret
    exact ⟨-1, rfl, .inl rfl, HS3.out.bel⟩
  have dk : decide (z2 - (up.size : Int) < 0) = false := by rw [decide_eq_false_iff_not]; exact k1
  have w2' : IntKind.i64.wrap (z2 - (up.size : Int) - (down.size : Int)) = z2 - (up.size : Int) - (down.size : Int) := by rw [IntKind.wrap_i64]; omega
  by_cases k2 : z2 - (up.size : Int) - (down.size : Int) < 0
  · have dk2 : decide (z2 - (up.size : Int) - (down.size : Int) < 0) = true := by simpa using k2
    go_wp2
    go_ret
    exact ⟨-1, rfl, .inl rfl, HS3.out.bel⟩
  have dk2 : decide (z2 - (up.size : Int) - (down.size : Int) < 0) = false := by rw [decide_eq_false_iff_not]; exact k2
  have HZ : Hid (0 ≤ z2 - (up.size : Int) - (down.size : Int)) := by show 0 ≤ _; omega
  go_wp2
  go_ret
  exact ⟨_, rfl, .inr ⟨HZ.out, HBD.out⟩, HS3.out.bel⟩
end Go.Proofs.Ytdnajdobmlgmiaa
