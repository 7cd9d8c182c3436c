import Derived.Test.YtbhoafiolalgaaaHL0
import Derived.Test.YtbhoafiolalgaaaHI7
import Derived.Test.YtbhoafiolalgaaaHI4
import Derived.Test.YtbhoafiolalgaaaHD2
import Derived.Deep.RegionHeld3
import Derived.Maps.RangeWalk
import Derived.Test.YtbhoafiolalgaaaHM3
namespace Go.Proofs.Ytbhoafiolalgaaa
open Go.RowKit
set_option linter.unusedVariables false

theorem hWr_any (fs : List Fd) (max : Int) (h : List Fd) : ∃ xs mx bs, hWr fs max h = ((xs, mx), bs) ∧ xs.length ≤ 16 := by
  cases ht : tOk fs max with
  | false => exact ⟨_, _, _, hWr_bad (by rw [ht]; rfl), by simp⟩
  | true =>
    cases hh : hOk h with
    | false => exact ⟨_, _, _, hWr_bad (by rw [ht, hh]; rfl), by simp⟩
    | true => exact ⟨_, _, _, hWr_ok ht hh, (wrH_len ht hh).2.1⟩
set_option maxRecDepth 100000 in
set_option maxHeartbeats 20000000 in
theorem fnHeadSmall_walk (a0 : Option Addr) (len0 cap0 : Nat) (z0 : List Int) (w : World) (w0 : Row w a0 len0 cap0 z0) :
    Calls Try.prog 13 #[.slice a0 len0 cap0] w fun e w' => e = .returned (.bool true) ∧ Below w.heap.size w w' := by
  by_cases c0 : (1048576 : Int) < len0
  · clear w0
    go_enter Try.func13, Try.ntmps13
    go_wp2
    go_ret
    exact ⟨rfl, Below.refl _ _⟩
  have R0 : Hid (Row w a0 len0 cap0 z0) := w0
  clear w0
  go_enter Try.func13, Try.ntmps13
  go_wp2_with fail
  refine (drawHeadWrite _ _ _ _ _ R0.out).mono ?_
  rintro e w1 ⟨fs, h, max, a', ah, c', ch, rfl, ⟨lF, sF, F_t⟩, ⟨lH, sH, F_h⟩, hB1⟩
  have DS : Hid (fsSm fs) := sF
  have DH : Hid (fsSm h) := sH
  clear sF sH R0
  have hbA : Below w1.heap.size w1 (w1.alloc (.cells #[.slice a' fs.length c', .int .i64 max] 25)) := (Below.refl _ _).alloc (Nat.le_refl _) _
  replace F_t := F_t.below hbA
  replace F_h := F_h.below hbA
  have hBn := bt' hB1 hbA
  clear hB1
  have hB1 := hBn
  clear hBn
  clear hbA
  have C_t : (w1.alloc (.cells #[.slice a' fs.length c', .int .i64 max] 25)).heap[w1.heap.size]? = some (.cells #[.slice a' fs.length c', .int .i64 max] 25 (0, 0)) := heap_alloc_last w1 _
  (try clear T_t0 T_t1)
  obtain ⟨T_t0, T_t1⟩ := row2c C_t
  have hSW := fun (w' : World) (h1 : Fs w' a' fs.length c' fs) (h2 : Fs w' ah h.length ch h) => specHeadWrite fs h a' ah _ c' _ ch max w' h1 DS.out.bd (by omega) h2 DH.out.bd (by omega)
  have hIW := fun (w' : World) (h1 : Fs w' a' fs.length c' fs) (h2 : Fs w' ah h.length ch h) => implHeadWrite fs h a' ah _ c' _ ch max w' h1 DS.out.bd (by omega) h2 DH.out.bd (by omega)
  have hHO := fun (w' : World) (h1 : Fs w' ah h.length ch h) => specHeadOk h ah _ ch w' h1 DH.out.bd (by omega)
  obtain ⟨xs, mx, bs, hr, k2⟩ := hWr_any fs max h
  rw [hr] at hSW hIW
  unfold HwAns at hSW
  unfold HwOwn at hIW
  dsimp only at hSW hIW
  have hL1 := fun (w' : World) (x y : Option Addr) (p q : Nat) (h1 : Fs w' x xs.length p xs) (h2 : Fs w' y xs.length q xs) => lkTable_same xs x y p q mx w' h1 h2 (by omega)
  cases hh : hOk h with
  | false =>
    rw [hh] at hHO
    have hL2 := fun (w' : World) (x y : Option Addr) (p q : Nat) (h1 : Fs w' x xs.length p xs) (h2 : Fs w' y xs.length q xs) => lkTable_same xs x y p q mx w' h1 h2 (by omega)
    clear hh hr
    go_wp2_with (first | (go_at_call 15; refine (hSW _ F_t F_h).mono ?_; clear hSW; rintro e w2 ⟨a2, n2, c2, rfl, F_y, hbx⟩; replace F_t := F_t.below hbx; replace F_h := F_h.below hbx; replace C_t := blkB hbx C_t; have hBn := bt' hB1 hbx; clear hB1; have hB1 := hBn; clear hBn; clear hbx; obtain rfl := F_y.len; have hbA : Below w2.heap.size w2 (w2.alloc (.cells #[.slice a2 xs.length c2, .int .i64 mx] 25)) := (Below.refl _ _).alloc (Nat.le_refl _) _; replace F_t := F_t.below hbA; replace F_h := F_h.below hbA; replace F_y := F_y.below hbA; replace C_t := blkB hbA C_t; have hBn := bt' hB1 hbA; clear hB1; have hB1 := hBn; clear hBn; clear hbA; have C_y : (w2.alloc (.cells #[.slice a2 xs.length c2, .int .i64 mx] 25)).heap[w2.heap.size]? = some (.cells #[.slice a2 xs.length c2, .int .i64 mx] 25 (0, 0)) := heap_alloc_last w2 _; (try clear T_t0 T_t1); (try clear T_y0 T_y1); obtain ⟨T_t0, T_t1⟩ := row2c C_t; obtain ⟨T_y0, T_y1⟩ := row2c C_y; skip) | (go_at_call 16; refine (hIW _ F_t F_h).mono ?_; clear hIW; rintro e w3 ⟨v3, rfl, hown, hbx⟩; replace F_t := F_t.below hbx; replace F_h := F_h.below hbx; replace F_y := F_y.below hbx; replace C_t := blkB hbx C_t; replace C_y := blkB hbx C_y; have hBn := bt' hB1 hbx; clear hB1; have hB1 := hBn; clear hBn; clear hbx; obtain ⟨a3, c3, rfl⟩ := own_formT hown; have F_x := own_Fs hown; clear hown; have hbA : Below w3.heap.size w3 (w3.alloc (.cells #[.slice a3 xs.length c3, .int .i64 mx] 25)) := (Below.refl _ _).alloc (Nat.le_refl _) _; replace F_t := F_t.below hbA; replace F_h := F_h.below hbA; replace F_y := F_y.below hbA; replace F_x := F_x.below hbA; replace C_t := blkB hbA C_t; replace C_y := blkB hbA C_y; have hBn := bt' hB1 hbA; clear hB1; have hB1 := hBn; clear hBn; clear hbA; have C_x : (w3.alloc (.cells #[.slice a3 xs.length c3, .int .i64 mx] 25)).heap[w3.heap.size]? = some (.cells #[.slice a3 xs.length c3, .int .i64 mx] 25 (0, 0)) := heap_alloc_last w3 _; (try clear T_t0 T_t1); (try clear T_y0 T_y1); (try clear T_x0 T_x1); obtain ⟨T_t0, T_t1⟩ := row2c C_t; obtain ⟨T_y0, T_y1⟩ := row2c C_y; obtain ⟨T_x0, T_x1⟩ := row2c C_x; skip) | (go_at_call 17; refine (hL1 _ _ _ _ _ F_x F_y).mono ?_; clear hL1; rintro e w4 ⟨rfl, hbx⟩; replace F_t := F_t.below hbx; replace F_h := F_h.below hbx; replace F_y := F_y.below hbx; replace F_x := F_x.below hbx; replace C_t := blkB hbx C_t; replace C_y := blkB hbx C_y; replace C_x := blkB hbx C_x; have hBn := bt' hB1 hbx; clear hB1; have hB1 := hBn; clear hBn; clear hbx; (try clear T_t0 T_t1); (try clear T_y0 T_y1); (try clear T_x0 T_x1); obtain ⟨T_t0, T_t1⟩ := row2c C_t; obtain ⟨T_y0, T_y1⟩ := row2c C_y; obtain ⟨T_x0, T_x1⟩ := row2c C_x; skip) | (go_at_call 19; refine (hHO _ F_h).mono ?_; clear hHO; rintro e w5 ⟨rfl, hbx⟩; replace F_t := F_t.below hbx; replace F_h := F_h.below hbx; replace F_y := F_y.below hbx; replace F_x := F_x.below hbx; replace C_t := blkB hbx C_t; replace C_y := blkB hbx C_y; replace C_x := blkB hbx C_x; have hBn := bt' hB1 hbx; clear hB1; have hB1 := hBn; clear hBn; clear hbx; (try clear T_t0 T_t1); (try clear T_y0 T_y1); (try clear T_x0 T_x1); obtain ⟨T_t0, T_t1⟩ := row2c C_t; obtain ⟨T_y0, T_y1⟩ := row2c C_y; obtain ⟨T_x0, T_x1⟩ := row2c C_x; skip) | (go_at_call 17; refine (hL2 _ _ _ _ _ F_x F_y).mono ?_; clear hL2; rintro e w6 ⟨rfl, hbx⟩; replace F_t := F_t.below hbx; replace F_h := F_h.below hbx; replace F_y := F_y.below hbx; replace F_x := F_x.below hbx; replace C_t := blkB hbx C_t; replace C_y := blkB hbx C_y; replace C_x := blkB hbx C_x; have hBn := bt' hB1 hbx; clear hB1; have hB1 := hBn; clear hBn; clear hbx; (try clear T_t0 T_t1); (try clear T_y0 T_y1); (try clear T_x0 T_x1); obtain ⟨T_t0, T_t1⟩ := row2c C_t; obtain ⟨T_y0, T_y1⟩ := row2c C_y; obtain ⟨T_x0, T_x1⟩ := row2c C_x; skip))
    go_ret
    exact ⟨rfl, hB1⟩
  | true =>
    rw [hh] at hHO
    obtain ⟨_, _, k3⟩ := wrH_len (fs := []) (max := 0) (by decide) hh
    have hIE := fun (w' : World) (h2 : Fs w' ah h.length ch h) => implHeadWrite [] h none ah 0 0 _ ch 0 w' (Fs_nil _) (fun f hf => by cases hf) (by decide) h2 DH.out.bd (by omega)
    have hRE := fun (w' : World) => implHeadRead [] none 0 0 0 (wrH [] 0 h).2 w' (Fs_nil _) (fun f hf => by cases hf) (by decide) (by unfold maxLen; omega)
    rw [hRd_back (by decide) hh, wrH_small hh] at hRE
    rw [hWr_ok (by decide) hh, wrH_small hh] at hIE
    obtain ⟨es, hes⟩ : ∃ es, (wrH [] 0 h).2 = es := ⟨_, rfl⟩
    rw [hes] at hIE hRE
    unfold HwOwn at hIE
    unfold HrOwn at hRE
    dsimp only at hIE hRE
    simp only [List.length_nil] at hIE hRE
    have hL3 := fun (w' : World) (x y : Option Addr) (p q : Nat) (h1 : Fs w' x h.length p h) (h2 : Fs w' y h.length q h) => lkFields_same h x y p q w' h1 h2 (by omega)
    clear hh hr hes k3
    go_wp2_with (first | (go_at_call 15; refine (hSW _ F_t F_h).mono ?_; clear hSW; rintro e w2 ⟨a2, n2, c2, rfl, F_y, hbx⟩; replace F_t := F_t.below hbx; replace F_h := F_h.below hbx; replace C_t := blkB hbx C_t; have hBn := bt' hB1 hbx; clear hB1; have hB1 := hBn; clear hBn; clear hbx; obtain rfl := F_y.len; have hbA : Below w2.heap.size w2 (w2.alloc (.cells #[.slice a2 xs.length c2, .int .i64 mx] 25)) := (Below.refl _ _).alloc (Nat.le_refl _) _; replace F_t := F_t.below hbA; replace F_h := F_h.below hbA; replace F_y := F_y.below hbA; replace C_t := blkB hbA C_t; have hBn := bt' hB1 hbA; clear hB1; have hB1 := hBn; clear hBn; clear hbA; have C_y : (w2.alloc (.cells #[.slice a2 xs.length c2, .int .i64 mx] 25)).heap[w2.heap.size]? = some (.cells #[.slice a2 xs.length c2, .int .i64 mx] 25 (0, 0)) := heap_alloc_last w2 _; (try clear T_t0 T_t1); (try clear T_y0 T_y1); obtain ⟨T_t0, T_t1⟩ := row2c C_t; obtain ⟨T_y0, T_y1⟩ := row2c C_y; skip) | (go_at_call 16; refine (hIW _ F_t F_h).mono ?_; clear hIW; rintro e w3 ⟨v3, rfl, hown, hbx⟩; replace F_t := F_t.below hbx; replace F_h := F_h.below hbx; replace F_y := F_y.below hbx; replace C_t := blkB hbx C_t; replace C_y := blkB hbx C_y; have hBn := bt' hB1 hbx; clear hB1; have hB1 := hBn; clear hBn; clear hbx; obtain ⟨a3, c3, rfl⟩ := own_formT hown; have F_x := own_Fs hown; clear hown; have hbA : Below w3.heap.size w3 (w3.alloc (.cells #[.slice a3 xs.length c3, .int .i64 mx] 25)) := (Below.refl _ _).alloc (Nat.le_refl _) _; replace F_t := F_t.below hbA; replace F_h := F_h.below hbA; replace F_y := F_y.below hbA; replace F_x := F_x.below hbA; replace C_t := blkB hbA C_t; replace C_y := blkB hbA C_y; have hBn := bt' hB1 hbA; clear hB1; have hB1 := hBn; clear hBn; clear hbA; have C_x : (w3.alloc (.cells #[.slice a3 xs.length c3, .int .i64 mx] 25)).heap[w3.heap.size]? = some (.cells #[.slice a3 xs.length c3, .int .i64 mx] 25 (0, 0)) := heap_alloc_last w3 _; (try clear T_t0 T_t1); (try clear T_y0 T_y1); (try clear T_x0 T_x1); obtain ⟨T_t0, T_t1⟩ := row2c C_t; obtain ⟨T_y0, T_y1⟩ := row2c C_y; obtain ⟨T_x0, T_x1⟩ := row2c C_x; skip) | (go_at_call 17; refine (hL1 _ _ _ _ _ F_x F_y).mono ?_; clear hL1; rintro e w4 ⟨rfl, hbx⟩; replace F_t := F_t.below hbx; replace F_h := F_h.below hbx; replace F_y := F_y.below hbx; replace F_x := F_x.below hbx; replace C_t := blkB hbx C_t; replace C_y := blkB hbx C_y; replace C_x := blkB hbx C_x; have hBn := bt' hB1 hbx; clear hB1; have hB1 := hBn; clear hBn; clear hbx; (try clear T_t0 T_t1); (try clear T_y0 T_y1); (try clear T_x0 T_x1); obtain ⟨T_t0, T_t1⟩ := row2c C_t; obtain ⟨T_y0, T_y1⟩ := row2c C_y; obtain ⟨T_x0, T_x1⟩ := row2c C_x; skip) | (go_at_call 19; refine (hHO _ F_h).mono ?_; clear hHO; rintro e w5 ⟨rfl, hbx⟩; replace F_t := F_t.below hbx; replace F_h := F_h.below hbx; replace F_y := F_y.below hbx; replace F_x := F_x.below hbx; replace C_t := blkB hbx C_t; replace C_y := blkB hbx C_y; replace C_x := blkB hbx C_x; have hBn := bt' hB1 hbx; clear hB1; have hB1 := hBn; clear hBn; clear hbx; have hbA : Below w5.heap.size w5 (w5.alloc (.cells #[.slice none 0 0, .int .i64 0] 25)) := (Below.refl _ _).alloc (Nat.le_refl _) _; replace F_t := F_t.below hbA; replace F_h := F_h.below hbA; replace F_y := F_y.below hbA; replace F_x := F_x.below hbA; replace C_t := blkB hbA C_t; replace C_y := blkB hbA C_y; replace C_x := blkB hbA C_x; have hBn := bt' hB1 hbA; clear hB1; have hB1 := hBn; clear hBn; clear hbA; have C_e : (w5.alloc (.cells #[.slice none 0 0, .int .i64 0] 25)).heap[w5.heap.size]? = some (.cells #[.slice none 0 0, .int .i64 0] 25 (0, 0)) := heap_alloc_last w5 _; (try clear T_t0 T_t1); (try clear T_y0 T_y1); (try clear T_x0 T_x1); (try clear T_e0 T_e1); obtain ⟨T_t0, T_t1⟩ := row2c C_t; obtain ⟨T_y0, T_y1⟩ := row2c C_y; obtain ⟨T_x0, T_x1⟩ := row2c C_x; obtain ⟨T_e0, T_e1⟩ := row2c C_e; skip) | (go_at_call 16; refine (hIE _ F_h).mono ?_; clear hIE; rintro e w6 ⟨v6, rfl, hown, hbx⟩; replace F_t := F_t.below hbx; replace F_h := F_h.below hbx; replace F_y := F_y.below hbx; replace F_x := F_x.below hbx; replace C_t := blkB hbx C_t; replace C_y := blkB hbx C_y; replace C_x := blkB hbx C_x; replace C_e := blkB hbx C_e; have hBn := bt' hB1 hbx; clear hB1; have hB1 := hBn; clear hBn; clear hbx; obtain ⟨a6, c6, rfl⟩ := own_formT hown; have F_q := own_Fs hown; clear hown; have hbA : Below w6.heap.size w6 (w6.alloc (.cells #[.slice a6 0 c6, .int .i64 0] 25)) := (Below.refl _ _).alloc (Nat.le_refl _) _; replace F_t := F_t.below hbA; replace F_h := F_h.below hbA; replace F_y := F_y.below hbA; replace F_x := F_x.below hbA; replace F_q := F_q.below hbA; replace C_t := blkB hbA C_t; replace C_y := blkB hbA C_y; replace C_x := blkB hbA C_x; replace C_e := blkB hbA C_e; have hBn := bt' hB1 hbA; clear hB1; have hB1 := hBn; clear hBn; clear hbA; have C_q : (w6.alloc (.cells #[.slice a6 0 c6, .int .i64 0] 25)).heap[w6.heap.size]? = some (.cells #[.slice a6 0 c6, .int .i64 0] 25 (0, 0)) := heap_alloc_last w6 _; (try clear T_t0 T_t1); (try clear T_y0 T_y1); (try clear T_x0 T_x1); (try clear T_e0 T_e1); (try clear T_q0 T_q1); obtain ⟨T_t0, T_t1⟩ := row2c C_t; obtain ⟨T_y0, T_y1⟩ := row2c C_y; obtain ⟨T_x0, T_x1⟩ := row2c C_x; obtain ⟨T_e0, T_e1⟩ := row2c C_e; obtain ⟨T_q0, T_q1⟩ := row2c C_q; skip) | (go_at_call 20; refine (hRE _).mono ?_; clear hRE; rintro e w7 ⟨v7, u7, rfl, hown, hownu, _, hbx⟩; replace F_t := F_t.below hbx; replace F_h := F_h.below hbx; replace F_y := F_y.below hbx; replace F_x := F_x.below hbx; replace F_q := F_q.below hbx; replace C_t := blkB hbx C_t; replace C_y := blkB hbx C_y; replace C_x := blkB hbx C_x; replace C_e := blkB hbx C_e; replace C_q := blkB hbx C_q; have hBn := bt' hB1 hbx; clear hB1; have hB1 := hBn; clear hBn; clear hbx; obtain ⟨a7, c7, rfl⟩ := own_formT hown; have F_z := own_Fs hown; obtain ⟨b7, d7, rfl⟩ := own_formT hownu; have F_g := own_Fs hownu; clear hown hownu; have hbA : Below w7.heap.size w7 (w7.alloc (.cells #[.slice a7 0 c7, .int .i64 0] 25)) := (Below.refl _ _).alloc (Nat.le_refl _) _; replace F_t := F_t.below hbA; replace F_h := F_h.below hbA; replace F_y := F_y.below hbA; replace F_x := F_x.below hbA; replace F_q := F_q.below hbA; replace F_z := F_z.below hbA; replace F_g := F_g.below hbA; replace C_t := blkB hbA C_t; replace C_y := blkB hbA C_y; replace C_x := blkB hbA C_x; replace C_e := blkB hbA C_e; replace C_q := blkB hbA C_q; have hBn := bt' hB1 hbA; clear hB1; have hB1 := hBn; clear hBn; clear hbA; have C_z : (w7.alloc (.cells #[.slice a7 0 c7, .int .i64 0] 25)).heap[w7.heap.size]? = some (.cells #[.slice a7 0 c7, .int .i64 0] 25 (0, 0)) := heap_alloc_last w7 _; (try clear T_t0 T_t1); (try clear T_y0 T_y1); (try clear T_x0 T_x1); (try clear T_e0 T_e1); (try clear T_q0 T_q1); (try clear T_z0 T_z1); obtain ⟨T_t0, T_t1⟩ := row2c C_t; obtain ⟨T_y0, T_y1⟩ := row2c C_y; obtain ⟨T_x0, T_x1⟩ := row2c C_x; obtain ⟨T_e0, T_e1⟩ := row2c C_e; obtain ⟨T_q0, T_q1⟩ := row2c C_q; obtain ⟨T_z0, T_z1⟩ := row2c C_z; skip) | (go_at_call 21; refine (hL3 _ _ _ _ _ F_g F_h).mono ?_; clear hL3; rintro e w8 ⟨rfl, hbx⟩; replace F_t := F_t.below hbx; replace F_h := F_h.below hbx; replace F_y := F_y.below hbx; replace F_x := F_x.below hbx; replace F_q := F_q.below hbx; replace F_z := F_z.below hbx; replace F_g := F_g.below hbx; replace C_t := blkB hbx C_t; replace C_y := blkB hbx C_y; replace C_x := blkB hbx C_x; replace C_e := blkB hbx C_e; replace C_q := blkB hbx C_q; replace C_z := blkB hbx C_z; have hBn := bt' hB1 hbx; clear hB1; have hB1 := hBn; clear hBn; clear hbx; (try clear T_t0 T_t1); (try clear T_y0 T_y1); (try clear T_x0 T_x1); (try clear T_e0 T_e1); (try clear T_q0 T_q1); (try clear T_z0 T_z1); obtain ⟨T_t0, T_t1⟩ := row2c C_t; obtain ⟨T_y0, T_y1⟩ := row2c C_y; obtain ⟨T_x0, T_x1⟩ := row2c C_x; obtain ⟨T_e0, T_e1⟩ := row2c C_e; obtain ⟨T_q0, T_q1⟩ := row2c C_q; obtain ⟨T_z0, T_z1⟩ := row2c C_z; skip))
    go_ret
    exact ⟨rfl, hB1⟩
end Go.Proofs.Ytbhoafiolalgaaa
