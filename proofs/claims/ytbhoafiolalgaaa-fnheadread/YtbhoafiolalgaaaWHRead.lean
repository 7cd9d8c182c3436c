import Derived.Test.YtbhoafiolalgaaaHL0
import Derived.Test.YtbhoafiolalgaaaHI7
import Derived.Test.YtbhoafiolalgaaaHI4
import Derived.Test.YtbhoafiolalgaaaHD4
import Derived.Test.YtbhoafiolalgaaaHR5
import Derived.Test.YtbhoafiolalgaaaHM3
import Derived.Test.YtbhoafiolalgaaaHC0
import Derived.Deep.RegionHeld3
import Derived.Maps.RangeWalk
namespace Go.Proofs.Ytbhoafiolalgaaa
open Go.RowKit
set_option linter.unusedVariables false

set_option maxRecDepth 100000 in
set_option maxHeartbeats 20000000 in
theorem fnHeadRead_walk (a0 : Option Addr) (len0 cap0 : Nat) (z0 : List Int) (w : World) (w0 : Row w a0 len0 cap0 z0) :
    Calls Try.prog 8 #[.slice a0 len0 cap0] w fun e w' => e = .returned (.bool true) ∧ Below w.heap.size w w' := by
  by_cases c0 : (1048576 : Int) < len0
  · clear w0
    go_enter Try.func8, Try.ntmps8
    go_wp2
    go_ret
    exact ⟨rfl, Below.refl _ _⟩
  have R0 : Hid (Row w a0 len0 cap0 z0) := w0
  clear w0
  go_enter Try.func8, Try.ntmps8
  go_wp2_with fail
  refine (drawHeadRead _ _ _ _ _ R0.out).mono ?_
  rintro e w1 ⟨fs, max, a', c', bb, rfl, hbz, ⟨lF, sF, F_t⟩, hB1⟩
  have DS : Hid (fsSm fs) := sF
  clear sF R0
  have hbA : Below w1.heap.size w1 (w1.alloc (.cells #[.slice a' fs.length c', .int .i64 max] 25)) := (Below.refl _ _).alloc (Nat.le_refl _) _
  replace F_t := F_t.below hbA
  have hBn := bt' hB1 hbA
  clear hB1
  have hB1 := hBn
  clear hBn
  clear hbA
  have C_t : (w1.alloc (.cells #[.slice a' fs.length c', .int .i64 max] 25)).heap[w1.heap.size]? = some (.cells #[.slice a' fs.length c', .int .i64 max] 25 (0, 0)) := heap_alloc_last w1 _
  (try clear T_t0 T_t1)
  obtain ⟨T_t0, T_t1⟩ := row2c C_t
  have hSR := fun (w' : World) (h1 : Fs w' a' fs.length c' fs) => specHeadRead fs a' _ c' max bb w' h1 DS.out.bd (by omega) (by unfold maxLen; omega)
  have hIR := fun (w' : World) (h1 : Fs w' a' fs.length c' fs) => implHeadRead fs a' _ c' max bb w' h1 DS.out.bd (by omega) (by unfold maxLen; omega)
  rcases hRd_two fs max bb with hr | ⟨gs, h, hr⟩
  · rw [hr] at hSR hIR
    unfold HrAns at hSR
    unfold HrOwn at hIR
    dsimp only at hSR hIR
    have hL1 := fun (w' : World) (x y : Option Addr) (p q : Nat) (h1 : Fs w' x ([] : List Fd).length p ([] : List Fd)) (h2 : Fs w' y ([] : List Fd).length q ([] : List Fd)) => lkFields_same ([] : List Fd) x y p q w' h1 h2 (by decide)
    have hL2 := fun (w' : World) (x y : Option Addr) (p q : Nat) (h1 : Fs w' x ([] : List Fd).length p ([] : List Fd)) (h2 : Fs w' y ([] : List Fd).length q ([] : List Fd)) => lkTable_same ([] : List Fd) x y p q 0 w' h1 h2 (by decide)
    have hL3 := fun (w' : World) (x y : Option Addr) (p q : Nat) (h1 : Fs w' x ([] : List Fd).length p ([] : List Fd)) (h2 : Fs w' y ([] : List Fd).length q ([] : List Fd)) => lkFields_same ([] : List Fd) x y p q w' h1 h2 (by decide)
    have hL4 := fun (w' : World) (x y : Option Addr) (p q : Nat) (h1 : Fs w' x ([] : List Fd).length p ([] : List Fd)) (h2 : Fs w' y ([] : List Fd).length q ([] : List Fd)) => lkTable_same ([] : List Fd) x y p q 0 w' h1 h2 (by decide)
    simp only [List.length_nil] at hIR hL1 hL2 hL3 hL4
    clear hr
    go_wp2_with (first | (go_at_call 25; refine (hSR _ F_t).mono ?_; clear hSR; rintro e w2 ⟨a2, n2, c2, b2, m2, d2, rfl, F_y, F_u, hbx⟩; replace F_t := F_t.below hbx; replace C_t := blkB hbx C_t; have hBn := bt' hB1 hbx; clear hB1; have hB1 := hBn; clear hBn; clear hbx; obtain rfl : n2 = 0 := F_y.len.symm; obtain rfl : m2 = 0 := F_u.len.symm; have hbA : Below w2.heap.size w2 (w2.alloc (.cells #[.slice a2 0 c2, .int .i64 0] 25)) := (Below.refl _ _).alloc (Nat.le_refl _) _; replace F_t := F_t.below hbA; replace F_y := F_y.below hbA; replace F_u := F_u.below hbA; replace C_t := blkB hbA C_t; have hBn := bt' hB1 hbA; clear hB1; have hB1 := hBn; clear hBn; clear hbA; have C_y : (w2.alloc (.cells #[.slice a2 0 c2, .int .i64 0] 25)).heap[w2.heap.size]? = some (.cells #[.slice a2 0 c2, .int .i64 0] 25 (0, 0)) := heap_alloc_last w2 _; (try clear T_t0 T_t1); (try clear T_y0 T_y1); obtain ⟨T_t0, T_t1⟩ := row2c C_t; obtain ⟨T_y0, T_y1⟩ := row2c C_y; skip) | (go_at_call 20; refine (hIR _ F_t).mono ?_; clear hIR; rintro e w3 ⟨v3, u3, rfl, hown, hownu, _, hbx⟩; replace F_t := F_t.below hbx; replace F_y := F_y.below hbx; replace F_u := F_u.below hbx; replace C_t := blkB hbx C_t; replace C_y := blkB hbx C_y; have hBn := bt' hB1 hbx; clear hB1; have hB1 := hBn; clear hBn; clear hbx; obtain ⟨a3, c3, rfl⟩ := own_formT hown; have F_x := own_Fs hown; obtain ⟨b3, d3, rfl⟩ := own_formT hownu; have F_h := own_Fs hownu; clear hown hownu; have hbA : Below w3.heap.size w3 (w3.alloc (.cells #[.slice a3 0 c3, .int .i64 0] 25)) := (Below.refl _ _).alloc (Nat.le_refl _) _; replace F_t := F_t.below hbA; replace F_y := F_y.below hbA; replace F_u := F_u.below hbA; replace F_x := F_x.below hbA; replace F_h := F_h.below hbA; replace C_t := blkB hbA C_t; replace C_y := blkB hbA C_y; have hBn := bt' hB1 hbA; clear hB1; have hB1 := hBn; clear hBn; clear hbA; have C_x : (w3.alloc (.cells #[.slice a3 0 c3, .int .i64 0] 25)).heap[w3.heap.size]? = some (.cells #[.slice a3 0 c3, .int .i64 0] 25 (0, 0)) := heap_alloc_last w3 _; (try clear T_t0 T_t1); (try clear T_y0 T_y1); (try clear T_x0 T_x1); obtain ⟨T_t0, T_t1⟩ := row2c C_t; obtain ⟨T_y0, T_y1⟩ := row2c C_y; obtain ⟨T_x0, T_x1⟩ := row2c C_x; skip) | (go_at_call 21; refine (hL1 _ _ _ _ _ F_h F_u).mono ?_; clear hL1; rintro e w4 ⟨rfl, hbx⟩; replace F_t := F_t.below hbx; replace F_y := F_y.below hbx; replace F_u := F_u.below hbx; replace F_x := F_x.below hbx; replace F_h := F_h.below hbx; replace C_t := blkB hbx C_t; replace C_y := blkB hbx C_y; replace C_x := blkB hbx C_x; have hBn := bt' hB1 hbx; clear hB1; have hB1 := hBn; clear hBn; clear hbx; (try clear T_t0 T_t1); (try clear T_y0 T_y1); (try clear T_x0 T_x1); obtain ⟨T_t0, T_t1⟩ := row2c C_t; obtain ⟨T_y0, T_y1⟩ := row2c C_y; obtain ⟨T_x0, T_x1⟩ := row2c C_x; skip) | (go_at_call 17; refine (hL2 _ _ _ _ _ F_x F_y).mono ?_; clear hL2; rintro e w5 ⟨rfl, hbx⟩; replace F_t := F_t.below hbx; replace F_y := F_y.below hbx; replace F_u := F_u.below hbx; replace F_x := F_x.below hbx; replace F_h := F_h.below hbx; replace C_t := blkB hbx C_t; replace C_y := blkB hbx C_y; replace C_x := blkB hbx C_x; have hBn := bt' hB1 hbx; clear hB1; have hB1 := hBn; clear hBn; clear hbx; (try clear T_t0 T_t1); (try clear T_y0 T_y1); (try clear T_x0 T_x1); obtain ⟨T_t0, T_t1⟩ := row2c C_t; obtain ⟨T_y0, T_y1⟩ := row2c C_y; obtain ⟨T_x0, T_x1⟩ := row2c C_x; skip) | (go_at_call 21; refine (hL3 _ _ _ _ _ F_h F_u).mono ?_; clear hL3; rintro e w6 ⟨rfl, hbx⟩; replace F_t := F_t.below hbx; replace F_y := F_y.below hbx; replace F_u := F_u.below hbx; replace F_x := F_x.below hbx; replace F_h := F_h.below hbx; replace C_t := blkB hbx C_t; replace C_y := blkB hbx C_y; replace C_x := blkB hbx C_x; have hBn := bt' hB1 hbx; clear hB1; have hB1 := hBn; clear hBn; clear hbx; (try clear T_t0 T_t1); (try clear T_y0 T_y1); (try clear T_x0 T_x1); obtain ⟨T_t0, T_t1⟩ := row2c C_t; obtain ⟨T_y0, T_y1⟩ := row2c C_y; obtain ⟨T_x0, T_x1⟩ := row2c C_x; skip) | (go_at_call 17; refine (hL4 _ _ _ _ _ F_x F_y).mono ?_; clear hL4; rintro e w7 ⟨rfl, hbx⟩; replace F_t := F_t.below hbx; replace F_y := F_y.below hbx; replace F_u := F_u.below hbx; replace F_x := F_x.below hbx; replace F_h := F_h.below hbx; replace C_t := blkB hbx C_t; replace C_y := blkB hbx C_y; replace C_x := blkB hbx C_x; have hBn := bt' hB1 hbx; clear hB1; have hB1 := hBn; clear hBn; clear hbx; (try clear T_t0 T_t1); (try clear T_y0 T_y1); (try clear T_x0 T_x1); obtain ⟨T_t0, T_t1⟩ := row2c C_t; obtain ⟨T_y0, T_y1⟩ := row2c C_y; obtain ⟨T_x0, T_x1⟩ := row2c C_x; skip))
    go_ret
    exact ⟨rfl, hB1⟩
  · obtain ⟨_, _, _, _, k1, k2⟩ := hRd_ok hr
    rw [hr] at hSR hIR
    unfold HrAns at hSR
    unfold HrOwn at hIR
    dsimp only at hSR hIR
    have k3 := tOk_len k1
    have k4 := (hOk_parts k2).2
    have hL1 := fun (w' : World) (x y : Option Addr) (p q : Nat) (h1 : Fs w' x h.length p h) (h2 : Fs w' y h.length q h) => lkFields_same h x y p q w' h1 h2 (by omega)
    have hL2 := fun (w' : World) (x y : Option Addr) (p q : Nat) (h1 : Fs w' x gs.length p gs) (h2 : Fs w' y gs.length q gs) => lkTable_same gs x y p q max w' h1 h2 (by omega)
    have hXO := fun (w' : World) (x : Option Addr) (p : Nat) (h1 : Fs w' x gs.length p gs) => implTableOk gs x _ p max w' h1 (tOk_bd k1) (by omega)
    rw [k1] at hXO
    have hHO := fun (w' : World) (x : Option Addr) (p : Nat) (h1 : Fs w' x h.length p h) => implHeadOk h x _ p w' h1 (hOk_bd k2) (by omega)
    rw [k2] at hHO
    clear hr k1 k2
    go_wp2_with (first | (go_at_call 25; refine (hSR _ F_t).mono ?_; clear hSR; rintro e w2 ⟨a2, n2, c2, b2, m2, d2, rfl, F_y, F_u, hbx⟩; replace F_t := F_t.below hbx; replace C_t := blkB hbx C_t; have hBn := bt' hB1 hbx; clear hB1; have hB1 := hBn; clear hBn; clear hbx; obtain rfl := F_y.len; obtain rfl := F_u.len; have hbA : Below w2.heap.size w2 (w2.alloc (.cells #[.slice a2 gs.length c2, .int .i64 max] 25)) := (Below.refl _ _).alloc (Nat.le_refl _) _; replace F_t := F_t.below hbA; replace F_y := F_y.below hbA; replace F_u := F_u.below hbA; replace C_t := blkB hbA C_t; have hBn := bt' hB1 hbA; clear hB1; have hB1 := hBn; clear hBn; clear hbA; have C_y : (w2.alloc (.cells #[.slice a2 gs.length c2, .int .i64 max] 25)).heap[w2.heap.size]? = some (.cells #[.slice a2 gs.length c2, .int .i64 max] 25 (0, 0)) := heap_alloc_last w2 _; (try clear T_t0 T_t1); (try clear T_y0 T_y1); obtain ⟨T_t0, T_t1⟩ := row2c C_t; obtain ⟨T_y0, T_y1⟩ := row2c C_y; skip) | (go_at_call 20; refine (hIR _ F_t).mono ?_; clear hIR; rintro e w3 ⟨v3, u3, rfl, hown, hownu, _, hbx⟩; replace F_t := F_t.below hbx; replace F_y := F_y.below hbx; replace F_u := F_u.below hbx; replace C_t := blkB hbx C_t; replace C_y := blkB hbx C_y; have hBn := bt' hB1 hbx; clear hB1; have hB1 := hBn; clear hBn; clear hbx; obtain ⟨a3, c3, rfl⟩ := own_formT hown; have F_x := own_Fs hown; obtain ⟨b3, d3, rfl⟩ := own_formT hownu; have F_h := own_Fs hownu; clear hown hownu; have hbA : Below w3.heap.size w3 (w3.alloc (.cells #[.slice a3 gs.length c3, .int .i64 max] 25)) := (Below.refl _ _).alloc (Nat.le_refl _) _; replace F_t := F_t.below hbA; replace F_y := F_y.below hbA; replace F_u := F_u.below hbA; replace F_x := F_x.below hbA; replace F_h := F_h.below hbA; replace C_t := blkB hbA C_t; replace C_y := blkB hbA C_y; have hBn := bt' hB1 hbA; clear hB1; have hB1 := hBn; clear hBn; clear hbA; have C_x : (w3.alloc (.cells #[.slice a3 gs.length c3, .int .i64 max] 25)).heap[w3.heap.size]? = some (.cells #[.slice a3 gs.length c3, .int .i64 max] 25 (0, 0)) := heap_alloc_last w3 _; (try clear T_t0 T_t1); (try clear T_y0 T_y1); (try clear T_x0 T_x1); obtain ⟨T_t0, T_t1⟩ := row2c C_t; obtain ⟨T_y0, T_y1⟩ := row2c C_y; obtain ⟨T_x0, T_x1⟩ := row2c C_x; skip) | (go_at_call 21; refine (hL1 _ _ _ _ _ F_h F_u).mono ?_; clear hL1; rintro e w4 ⟨rfl, hbx⟩; replace F_t := F_t.below hbx; replace F_y := F_y.below hbx; replace F_u := F_u.below hbx; replace F_x := F_x.below hbx; replace F_h := F_h.below hbx; replace C_t := blkB hbx C_t; replace C_y := blkB hbx C_y; replace C_x := blkB hbx C_x; have hBn := bt' hB1 hbx; clear hB1; have hB1 := hBn; clear hBn; clear hbx; (try clear T_t0 T_t1); (try clear T_y0 T_y1); (try clear T_x0 T_x1); obtain ⟨T_t0, T_t1⟩ := row2c C_t; obtain ⟨T_y0, T_y1⟩ := row2c C_y; obtain ⟨T_x0, T_x1⟩ := row2c C_x; skip) | (go_at_call 17; refine (hL2 _ _ _ _ _ F_x F_y).mono ?_; clear hL2; rintro e w5 ⟨rfl, hbx⟩; replace F_t := F_t.below hbx; replace F_y := F_y.below hbx; replace F_u := F_u.below hbx; replace F_x := F_x.below hbx; replace F_h := F_h.below hbx; replace C_t := blkB hbx C_t; replace C_y := blkB hbx C_y; replace C_x := blkB hbx C_x; have hBn := bt' hB1 hbx; clear hB1; have hB1 := hBn; clear hBn; clear hbx; (try clear T_t0 T_t1); (try clear T_y0 T_y1); (try clear T_x0 T_x1); obtain ⟨T_t0, T_t1⟩ := row2c C_t; obtain ⟨T_y0, T_y1⟩ := row2c C_y; obtain ⟨T_x0, T_x1⟩ := row2c C_x; skip) | (go_at_call 26; refine (hHO _ _ _ F_h).mono ?_; clear hHO; rintro e w6 ⟨rfl, hbx⟩; replace F_t := F_t.below hbx; replace F_y := F_y.below hbx; replace F_u := F_u.below hbx; replace F_x := F_x.below hbx; replace F_h := F_h.below hbx; replace C_t := blkB hbx C_t; replace C_y := blkB hbx C_y; replace C_x := blkB hbx C_x; have hBn := bt' hB1 hbx; clear hB1; have hB1 := hBn; clear hBn; clear hbx; (try clear T_t0 T_t1); (try clear T_y0 T_y1); (try clear T_x0 T_x1); obtain ⟨T_t0, T_t1⟩ := row2c C_t; obtain ⟨T_y0, T_y1⟩ := row2c C_y; obtain ⟨T_x0, T_x1⟩ := row2c C_x; skip) | (go_at_call 22; refine (hXO _ _ _ F_x).mono ?_; clear hXO; rintro e w7 ⟨rfl, hbx⟩; replace F_t := F_t.below hbx; replace F_y := F_y.below hbx; replace F_u := F_u.below hbx; replace F_x := F_x.below hbx; replace F_h := F_h.below hbx; replace C_t := blkB hbx C_t; replace C_y := blkB hbx C_y; replace C_x := blkB hbx C_x; have hBn := bt' hB1 hbx; clear hB1; have hB1 := hBn; clear hBn; clear hbx; (try clear T_t0 T_t1); (try clear T_y0 T_y1); (try clear T_x0 T_x1); obtain ⟨T_t0, T_t1⟩ := row2c C_t; obtain ⟨T_y0, T_y1⟩ := row2c C_y; obtain ⟨T_x0, T_x1⟩ := row2c C_x; skip))
    go_ret
    exact ⟨rfl, hB1⟩
end Go.Proofs.Ytbhoafiolalgaaa
