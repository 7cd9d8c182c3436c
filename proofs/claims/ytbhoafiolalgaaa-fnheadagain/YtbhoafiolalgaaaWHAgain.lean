import Derived.Test.YtbhoafiolalgaaaHL0
import Derived.Test.YtbhoafiolalgaaaHI7
import Derived.Test.YtbhoafiolalgaaaHI4
import Derived.Test.YtbhoafiolalgaaaHD2
import Derived.Deep.RegionHeld3
import Derived.Maps.RangeWalk
import Derived.Test.YtbhoafiolalgaaaHM3
namespace Go.Proofs.Ytbhoafiolalgaaa
open Go.RowKit
set_option linter.unusedVariables false

theorem tabFind_ok {fs : List Fd} {max : Int} {f : Fd} (ht : tOk fs max = true) (hf : fOk f = true) : tabFind fs max f = findV fs f := by
  unfold tabFind; rw [ht, hf]; rfl
set_option maxRecDepth 100000 in
set_option maxHeartbeats 20000000 in
theorem fnHeadAgain_walk (a0 : Option Addr) (len0 cap0 : Nat) (z0 : List Int) (w : World) (w0 : Row w a0 len0 cap0 z0) :
    Calls Try.prog 6 #[.slice a0 len0 cap0] w fun e w' => e = .returned (.bool true) ∧ Below w.heap.size w w' := by
  by_cases c0 : (1048576 : Int) < len0
  · clear w0
    go_enter Try.func6, Try.ntmps6
    go_wp2
    go_ret
    exact ⟨rfl, Below.refl _ _⟩
  have R0 : Hid (Row w a0 len0 cap0 z0) := w0
  clear w0
  go_enter Try.func6, Try.ntmps6
  go_wp2_with fail
  refine (drawHeadWrite _ _ _ _ _ R0.out).mono ?_
  rintro e w1 ⟨fs, h, max, a', ah, c', ch, rfl, ⟨lF, sF, F_t⟩, ⟨lH, sH, F_h⟩, hB1⟩
  have DS : Hid (fsSm fs) := sF
  have DH : Hid (fsSm h) := sH
  clear sF sH R0
  have hbA : Below w1.heap.size w1 (w1.alloc (.cells #[.slice a' fs.length c', .int .i64 max] 25)) := (Below.refl _ _).alloc (Nat.le_refl _) _
  replace F_t := F_t.below hbA
  replace F_h := F_h.below hbA
  have hBn := bt' hB1 hbA
  clear hB1
  have hB1 := hBn
  clear hBn
  clear hbA
  have C_t : (w1.alloc (.cells #[.slice a' fs.length c', .int .i64 max] 25)).heap[w1.heap.size]? = some (.cells #[.slice a' fs.length c', .int .i64 max] 25 (0, 0)) := heap_alloc_last w1 _
  (try clear T_t0 T_t1)
  obtain ⟨T_t0, T_t1⟩ := row2c C_t
  cases ht : tOk fs max with
  | false =>
    have hSW := fun (w' : World) (h1 : Fs w' a' fs.length c' fs) (h2 : Fs w' ah h.length ch h) => specHeadWrite fs h a' ah _ c' _ ch max w' h1 DS.out.bd (by omega) h2 DH.out.bd (by omega)
    have hIW := fun (w' : World) (h1 : Fs w' a' fs.length c' fs) (h2 : Fs w' ah h.length ch h) => implHeadWrite fs h a' ah _ c' _ ch max w' h1 DS.out.bd (by omega) h2 DH.out.bd (by omega)
    have hTO := fun (w' : World) (h1 : Fs w' a' fs.length c' fs) => specTableOk fs a' _ c' max w' h1 DS.out.bd (by omega)
    rw [hWr_bad (by rw [ht]; rfl)] at hSW hIW
    rw [ht] at hTO
    unfold HwAns at hSW
    unfold HwOwn at hIW
    dsimp only at hSW hIW
    have hL1 := fun (w' : World) (x y : Option Addr) (p q : Nat) (h1 : Fs w' x ([] : List Fd).length p ([] : List Fd)) (h2 : Fs w' y ([] : List Fd).length q ([] : List Fd)) => lkTable_same ([] : List Fd) x y p q 0 w' h1 h2 (by decide)
    have hL2 := fun (w' : World) (x y : Option Addr) (p q : Nat) (h1 : Fs w' x ([] : List Fd).length p ([] : List Fd)) (h2 : Fs w' y ([] : List Fd).length q ([] : List Fd)) => lkTable_same ([] : List Fd) x y p q 0 w' h1 h2 (by decide)
    simp only [List.length_nil] at hIW hL1 hL2
    clear ht
    go_wp2_with (first | (go_at_call 15; refine (hSW _ F_t F_h).mono ?_; clear hSW; rintro e w2 ⟨a2, n2, c2, rfl, F_y, hbx⟩; replace F_t := F_t.below hbx; replace F_h := F_h.below hbx; replace C_t := blkB hbx C_t; have hBn := bt' hB1 hbx; clear hB1; have hB1 := hBn; clear hBn; clear hbx; obtain rfl : n2 = 0 := F_y.len.symm; have hbA : Below w2.heap.size w2 (w2.alloc (.cells #[.slice a2 0 c2, .int .i64 0] 25)) := (Below.refl _ _).alloc (Nat.le_refl _) _; replace F_t := F_t.below hbA; replace F_h := F_h.below hbA; replace F_y := F_y.below hbA; replace C_t := blkB hbA C_t; have hBn := bt' hB1 hbA; clear hB1; have hB1 := hBn; clear hBn; clear hbA; have C_y : (w2.alloc (.cells #[.slice a2 0 c2, .int .i64 0] 25)).heap[w2.heap.size]? = some (.cells #[.slice a2 0 c2, .int .i64 0] 25 (0, 0)) := heap_alloc_last w2 _; (try clear T_t0 T_t1); (try clear T_y0 T_y1); obtain ⟨T_t0, T_t1⟩ := row2c C_t; obtain ⟨T_y0, T_y1⟩ := row2c C_y; skip) | (go_at_call 16; refine (hIW _ F_t F_h).mono ?_; clear hIW; rintro e w3 ⟨v3, rfl, hown, hbx⟩; replace F_t := F_t.below hbx; replace F_h := F_h.below hbx; replace F_y := F_y.below hbx; replace C_t := blkB hbx C_t; replace C_y := blkB hbx C_y; have hBn := bt' hB1 hbx; clear hB1; have hB1 := hBn; clear hBn; clear hbx; obtain ⟨a3, c3, rfl⟩ := own_formT hown; have F_x := own_Fs hown; clear hown; have hbA : Below w3.heap.size w3 (w3.alloc (.cells #[.slice a3 0 c3, .int .i64 0] 25)) := (Below.refl _ _).alloc (Nat.le_refl _) _; replace F_t := F_t.below hbA; replace F_h := F_h.below hbA; replace F_y := F_y.below hbA; replace F_x := F_x.below hbA; replace C_t := blkB hbA C_t; replace C_y := blkB hbA C_y; have hBn := bt' hB1 hbA; clear hB1; have hB1 := hBn; clear hBn; clear hbA; have C_x : (w3.alloc (.cells #[.slice a3 0 c3, .int .i64 0] 25)).heap[w3.heap.size]? = some (.cells #[.slice a3 0 c3, .int .i64 0] 25 (0, 0)) := heap_alloc_last w3 _; (try clear T_t0 T_t1); (try clear T_y0 T_y1); (try clear T_x0 T_x1); obtain ⟨T_t0, T_t1⟩ := row2c C_t; obtain ⟨T_y0, T_y1⟩ := row2c C_y; obtain ⟨T_x0, T_x1⟩ := row2c C_x; skip) | (go_at_call 17; refine (hL1 _ _ _ _ _ F_x F_y).mono ?_; clear hL1; rintro e w4 ⟨rfl, hbx⟩; replace F_t := F_t.below hbx; replace F_h := F_h.below hbx; replace F_y := F_y.below hbx; replace F_x := F_x.below hbx; replace C_t := blkB hbx C_t; replace C_y := blkB hbx C_y; replace C_x := blkB hbx C_x; have hBn := bt' hB1 hbx; clear hB1; have hB1 := hBn; clear hBn; clear hbx; (try clear T_t0 T_t1); (try clear T_y0 T_y1); (try clear T_x0 T_x1); obtain ⟨T_t0, T_t1⟩ := row2c C_t; obtain ⟨T_y0, T_y1⟩ := row2c C_y; obtain ⟨T_x0, T_x1⟩ := row2c C_x; skip) | (go_at_call 18; refine (hTO _ F_t).mono ?_; clear hTO; rintro e w5 ⟨rfl, hbx⟩; replace F_t := F_t.below hbx; replace F_h := F_h.below hbx; replace F_y := F_y.below hbx; replace F_x := F_x.below hbx; replace C_t := blkB hbx C_t; replace C_y := blkB hbx C_y; replace C_x := blkB hbx C_x; have hBn := bt' hB1 hbx; clear hB1; have hB1 := hBn; clear hBn; clear hbx; (try clear T_t0 T_t1); (try clear T_y0 T_y1); (try clear T_x0 T_x1); obtain ⟨T_t0, T_t1⟩ := row2c C_t; obtain ⟨T_y0, T_y1⟩ := row2c C_y; obtain ⟨T_x0, T_x1⟩ := row2c C_x; skip) | (go_at_call 17; refine (hL2 _ _ _ _ _ F_x F_y).mono ?_; clear hL2; rintro e w6 ⟨rfl, hbx⟩; replace F_t := F_t.below hbx; replace F_h := F_h.below hbx; replace F_y := F_y.below hbx; replace F_x := F_x.below hbx; replace C_t := blkB hbx C_t; replace C_y := blkB hbx C_y; replace C_x := blkB hbx C_x; have hBn := bt' hB1 hbx; clear hB1; have hB1 := hBn; clear hBn; clear hbx; (try clear T_t0 T_t1); (try clear T_y0 T_y1); (try clear T_x0 T_x1); obtain ⟨T_t0, T_t1⟩ := row2c C_t; obtain ⟨T_y0, T_y1⟩ := row2c C_y; obtain ⟨T_x0, T_x1⟩ := row2c C_x; skip))
    go_ret
    exact ⟨rfl, hB1⟩
  | true =>
    cases hh : hOk h with
    | false =>
      have hSW := fun (w' : World) (h1 : Fs w' a' fs.length c' fs) (h2 : Fs w' ah h.length ch h) => specHeadWrite fs h a' ah _ c' _ ch max w' h1 DS.out.bd (by omega) h2 DH.out.bd (by omega)
      have hIW := fun (w' : World) (h1 : Fs w' a' fs.length c' fs) (h2 : Fs w' ah h.length ch h) => implHeadWrite fs h a' ah _ c' _ ch max w' h1 DS.out.bd (by omega) h2 DH.out.bd (by omega)
      have hTO := fun (w' : World) (h1 : Fs w' a' fs.length c' fs) => specTableOk fs a' _ c' max w' h1 DS.out.bd (by omega)
      have hHO := fun (w' : World) (h1 : Fs w' ah h.length ch h) => specHeadOk h ah _ ch w' h1 DH.out.bd (by omega)
      rw [hWr_bad (by rw [ht, hh]; rfl)] at hSW hIW
      rw [ht] at hTO
      rw [hh] at hHO
      unfold HwAns at hSW
      unfold HwOwn at hIW
      dsimp only at hSW hIW
      have hL1 := fun (w' : World) (x y : Option Addr) (p q : Nat) (h1 : Fs w' x ([] : List Fd).length p ([] : List Fd)) (h2 : Fs w' y ([] : List Fd).length q ([] : List Fd)) => lkTable_same ([] : List Fd) x y p q 0 w' h1 h2 (by decide)
      have hL2 := fun (w' : World) (x y : Option Addr) (p q : Nat) (h1 : Fs w' x ([] : List Fd).length p ([] : List Fd)) (h2 : Fs w' y ([] : List Fd).length q ([] : List Fd)) => lkTable_same ([] : List Fd) x y p q 0 w' h1 h2 (by decide)
      simp only [List.length_nil] at hIW hL1 hL2
      clear ht hh
      go_wp2_with (first | (go_at_call 15; refine (hSW _ F_t F_h).mono ?_; clear hSW; rintro e w2 ⟨a2, n2, c2, rfl, F_y, hbx⟩; replace F_t := F_t.below hbx; replace F_h := F_h.below hbx; replace C_t := blkB hbx C_t; have hBn := bt' hB1 hbx; clear hB1; have hB1 := hBn; clear hBn; clear hbx; obtain rfl : n2 = 0 := F_y.len.symm; have hbA : Below w2.heap.size w2 (w2.alloc (.cells #[.slice a2 0 c2, .int .i64 0] 25)) := (Below.refl _ _).alloc (Nat.le_refl _) _; replace F_t := F_t.below hbA; replace F_h := F_h.below hbA; replace F_y := F_y.below hbA; replace C_t := blkB hbA C_t; have hBn := bt' hB1 hbA; clear hB1; have hB1 := hBn; clear hBn; clear hbA; have C_y : (w2.alloc (.cells #[.slice a2 0 c2, .int .i64 0] 25)).heap[w2.heap.size]? = some (.cells #[.slice a2 0 c2, .int .i64 0] 25 (0, 0)) := heap_alloc_last w2 _; (try clear T_t0 T_t1); (try clear T_y0 T_y1); obtain ⟨T_t0, T_t1⟩ := row2c C_t; obtain ⟨T_y0, T_y1⟩ := row2c C_y; skip) | (go_at_call 16; refine (hIW _ F_t F_h).mono ?_; clear hIW; rintro e w3 ⟨v3, rfl, hown, hbx⟩; replace F_t := F_t.below hbx; replace F_h := F_h.below hbx; replace F_y := F_y.below hbx; replace C_t := blkB hbx C_t; replace C_y := blkB hbx C_y; have hBn := bt' hB1 hbx; clear hB1; have hB1 := hBn; clear hBn; clear hbx; obtain ⟨a3, c3, rfl⟩ := own_formT hown; have F_x := own_Fs hown; clear hown; have hbA : Below w3.heap.size w3 (w3.alloc (.cells #[.slice a3 0 c3, .int .i64 0] 25)) := (Below.refl _ _).alloc (Nat.le_refl _) _; replace F_t := F_t.below hbA; replace F_h := F_h.below hbA; replace F_y := F_y.below hbA; replace F_x := F_x.below hbA; replace C_t := blkB hbA C_t; replace C_y := blkB hbA C_y; have hBn := bt' hB1 hbA; clear hB1; have hB1 := hBn; clear hBn; clear hbA; have C_x : (w3.alloc (.cells #[.slice a3 0 c3, .int .i64 0] 25)).heap[w3.heap.size]? = some (.cells #[.slice a3 0 c3, .int .i64 0] 25 (0, 0)) := heap_alloc_last w3 _; (try clear T_t0 T_t1); (try clear T_y0 T_y1); (try clear T_x0 T_x1); obtain ⟨T_t0, T_t1⟩ := row2c C_t; obtain ⟨T_y0, T_y1⟩ := row2c C_y; obtain ⟨T_x0, T_x1⟩ := row2c C_x; skip) | (go_at_call 17; refine (hL1 _ _ _ _ _ F_x F_y).mono ?_; clear hL1; rintro e w4 ⟨rfl, hbx⟩; replace F_t := F_t.below hbx; replace F_h := F_h.below hbx; replace F_y := F_y.below hbx; replace F_x := F_x.below hbx; replace C_t := blkB hbx C_t; replace C_y := blkB hbx C_y; replace C_x := blkB hbx C_x; have hBn := bt' hB1 hbx; clear hB1; have hB1 := hBn; clear hBn; clear hbx; (try clear T_t0 T_t1); (try clear T_y0 T_y1); (try clear T_x0 T_x1); obtain ⟨T_t0, T_t1⟩ := row2c C_t; obtain ⟨T_y0, T_y1⟩ := row2c C_y; obtain ⟨T_x0, T_x1⟩ := row2c C_x; skip) | (go_at_call 18; refine (hTO _ F_t).mono ?_; clear hTO; rintro e w5 ⟨rfl, hbx⟩; replace F_t := F_t.below hbx; replace F_h := F_h.below hbx; replace F_y := F_y.below hbx; replace F_x := F_x.below hbx; replace C_t := blkB hbx C_t; replace C_y := blkB hbx C_y; replace C_x := blkB hbx C_x; have hBn := bt' hB1 hbx; clear hB1; have hB1 := hBn; clear hBn; clear hbx; (try clear T_t0 T_t1); (try clear T_y0 T_y1); (try clear T_x0 T_x1); obtain ⟨T_t0, T_t1⟩ := row2c C_t; obtain ⟨T_y0, T_y1⟩ := row2c C_y; obtain ⟨T_x0, T_x1⟩ := row2c C_x; skip) | (go_at_call 19; refine (hHO _ F_h).mono ?_; clear hHO; rintro e w6 ⟨rfl, hbx⟩; replace F_t := F_t.below hbx; replace F_h := F_h.below hbx; replace F_y := F_y.below hbx; replace F_x := F_x.below hbx; replace C_t := blkB hbx C_t; replace C_y := blkB hbx C_y; replace C_x := blkB hbx C_x; have hBn := bt' hB1 hbx; clear hB1; have hB1 := hBn; clear hBn; clear hbx; (try clear T_t0 T_t1); (try clear T_y0 T_y1); (try clear T_x0 T_x1); obtain ⟨T_t0, T_t1⟩ := row2c C_t; obtain ⟨T_y0, T_y1⟩ := row2c C_y; obtain ⟨T_x0, T_x1⟩ := row2c C_x; skip) | (go_at_call 17; refine (hL2 _ _ _ _ _ F_x F_y).mono ?_; clear hL2; rintro e w7 ⟨rfl, hbx⟩; replace F_t := F_t.below hbx; replace F_h := F_h.below hbx; replace F_y := F_y.below hbx; replace F_x := F_x.below hbx; replace C_t := blkB hbx C_t; replace C_y := blkB hbx C_y; replace C_x := blkB hbx C_x; have hBn := bt' hB1 hbx; clear hB1; have hB1 := hBn; clear hBn; clear hbx; (try clear T_t0 T_t1); (try clear T_y0 T_y1); (try clear T_x0 T_x1); obtain ⟨T_t0, T_t1⟩ := row2c C_t; obtain ⟨T_y0, T_y1⟩ := row2c C_y; obtain ⟨T_x0, T_x1⟩ := row2c C_x; skip))
      go_ret
      exact ⟨rfl, hB1⟩
    | true =>
      have hSW := fun (w' : World) (h1 : Fs w' a' fs.length c' fs) (h2 : Fs w' ah h.length ch h) => specHeadWrite fs h a' ah _ c' _ ch max w' h1 DS.out.bd (by omega) h2 DH.out.bd (by omega)
      have hIW := fun (w' : World) (h1 : Fs w' a' fs.length c' fs) (h2 : Fs w' ah h.length ch h) => implHeadWrite fs h a' ah _ c' _ ch max w' h1 DS.out.bd (by omega) h2 DH.out.bd (by omega)
      have hTO := fun (w' : World) (h1 : Fs w' a' fs.length c' fs) => specTableOk fs a' _ c' max w' h1 DS.out.bd (by omega)
      have hHO := fun (w' : World) (h1 : Fs w' ah h.length ch h) => specHeadOk h ah _ ch w' h1 DH.out.bd (by omega)
      obtain ⟨k1, k2, k3⟩ := wrH_len ht hh
      rw [hWr_ok ht hh] at hSW hIW
      rw [ht] at hTO
      rw [hh] at hHO
      obtain ⟨xs, hxs⟩ : ∃ xs, (wrH fs max h).1 = xs := ⟨_, rfl⟩
      obtain ⟨bs, hbs⟩ : ∃ bs, (wrH fs max h).2 = bs := ⟨_, rfl⟩
      rw [hxs, hbs] at hSW hIW
      rw [hxs] at k1 k2
      unfold HwAns at hSW
      unfold HwOwn at hIW
      dsimp only at hSW hIW
      have hL1 := fun (w' : World) (x y : Option Addr) (p q : Nat) (h1 : Fs w' x xs.length p xs) (h2 : Fs w' y xs.length q xs) => lkTable_same xs x y p q max w' h1 h2 (by omega)
      have HX : Hid (tOk xs max = true) := k1
      have HH : Hid (hOk h = true) := hh
      clear ht hh k1 k3 hxs hbs
      go_wp2_with (first | (go_at_call 15; refine (hSW _ F_t F_h).mono ?_; clear hSW; rintro e w2 ⟨a2, n2, c2, rfl, F_y, hbx⟩; replace F_t := F_t.below hbx; replace F_h := F_h.below hbx; replace C_t := blkB hbx C_t; have hBn := bt' hB1 hbx; clear hB1; have hB1 := hBn; clear hBn; clear hbx; obtain rfl := F_y.len; have hbA : Below w2.heap.size w2 (w2.alloc (.cells #[.slice a2 xs.length c2, .int .i64 max] 25)) := (Below.refl _ _).alloc (Nat.le_refl _) _; replace F_t := F_t.below hbA; replace F_h := F_h.below hbA; replace F_y := F_y.below hbA; replace C_t := blkB hbA C_t; have hBn := bt' hB1 hbA; clear hB1; have hB1 := hBn; clear hBn; clear hbA; have C_y : (w2.alloc (.cells #[.slice a2 xs.length c2, .int .i64 max] 25)).heap[w2.heap.size]? = some (.cells #[.slice a2 xs.length c2, .int .i64 max] 25 (0, 0)) := heap_alloc_last w2 _; (try clear T_t0 T_t1); (try clear T_y0 T_y1); obtain ⟨T_t0, T_t1⟩ := row2c C_t; obtain ⟨T_y0, T_y1⟩ := row2c C_y; skip) | (go_at_call 16; refine (hIW _ F_t F_h).mono ?_; clear hIW; rintro e w3 ⟨v3, rfl, hown, hbx⟩; replace F_t := F_t.below hbx; replace F_h := F_h.below hbx; replace F_y := F_y.below hbx; replace C_t := blkB hbx C_t; replace C_y := blkB hbx C_y; have hBn := bt' hB1 hbx; clear hB1; have hB1 := hBn; clear hBn; clear hbx; obtain ⟨a3, c3, rfl⟩ := own_formT hown; have F_x := own_Fs hown; clear hown; have hbA : Below w3.heap.size w3 (w3.alloc (.cells #[.slice a3 xs.length c3, .int .i64 max] 25)) := (Below.refl _ _).alloc (Nat.le_refl _) _; replace F_t := F_t.below hbA; replace F_h := F_h.below hbA; replace F_y := F_y.below hbA; replace F_x := F_x.below hbA; replace C_t := blkB hbA C_t; replace C_y := blkB hbA C_y; have hBn := bt' hB1 hbA; clear hB1; have hB1 := hBn; clear hBn; clear hbA; have C_x : (w3.alloc (.cells #[.slice a3 xs.length c3, .int .i64 max] 25)).heap[w3.heap.size]? = some (.cells #[.slice a3 xs.length c3, .int .i64 max] 25 (0, 0)) := heap_alloc_last w3 _; (try clear T_t0 T_t1); (try clear T_y0 T_y1); (try clear T_x0 T_x1); obtain ⟨T_t0, T_t1⟩ := row2c C_t; obtain ⟨T_y0, T_y1⟩ := row2c C_y; obtain ⟨T_x0, T_x1⟩ := row2c C_x; skip) | (go_at_call 17; refine (hL1 _ _ _ _ _ F_x F_y).mono ?_; clear hL1; rintro e w4 ⟨rfl, hbx⟩; replace F_t := F_t.below hbx; replace F_h := F_h.below hbx; replace F_y := F_y.below hbx; replace F_x := F_x.below hbx; replace C_t := blkB hbx C_t; replace C_y := blkB hbx C_y; replace C_x := blkB hbx C_x; have hBn := bt' hB1 hbx; clear hB1; have hB1 := hBn; clear hBn; clear hbx; (try clear T_t0 T_t1); (try clear T_y0 T_y1); (try clear T_x0 T_x1); obtain ⟨T_t0, T_t1⟩ := row2c C_t; obtain ⟨T_y0, T_y1⟩ := row2c C_y; obtain ⟨T_x0, T_x1⟩ := row2c C_x; skip) | (go_at_call 18; refine (hTO _ F_t).mono ?_; clear hTO; rintro e w5 ⟨rfl, hbx⟩; replace F_t := F_t.below hbx; replace F_h := F_h.below hbx; replace F_y := F_y.below hbx; replace F_x := F_x.below hbx; replace C_t := blkB hbx C_t; replace C_y := blkB hbx C_y; replace C_x := blkB hbx C_x; have hBn := bt' hB1 hbx; clear hB1; have hB1 := hBn; clear hBn; clear hbx; (try clear T_t0 T_t1); (try clear T_y0 T_y1); (try clear T_x0 T_x1); obtain ⟨T_t0, T_t1⟩ := row2c C_t; obtain ⟨T_y0, T_y1⟩ := row2c C_y; obtain ⟨T_x0, T_x1⟩ := row2c C_x; skip) | (go_at_call 19; refine (hHO _ F_h).mono ?_; clear hHO; rintro e w6 ⟨rfl, hbx⟩; replace F_t := F_t.below hbx; replace F_h := F_h.below hbx; replace F_y := F_y.below hbx; replace F_x := F_x.below hbx; replace C_t := blkB hbx C_t; replace C_y := blkB hbx C_y; replace C_x := blkB hbx C_x; have hBn := bt' hB1 hbx; clear hB1; have hB1 := hBn; clear hBn; clear hbx; (try clear T_t0 T_t1); (try clear T_y0 T_y1); (try clear T_x0 T_x1); obtain ⟨T_t0, T_t1⟩ := row2c C_t; obtain ⟨T_y0, T_y1⟩ := row2c C_y; obtain ⟨T_x0, T_x1⟩ := row2c C_x; skip))
      clear T_t0 T_t1 T_x0 T_x1 T_y0 T_y1 C_t C_y F_t F_y
      have hh6 := (hOk_parts HH.out).2
      have hmx : Try.prog.follows .mixedOrders = true := by kernel_rfl
      go_loopw [9] (fun iv wr => ∃ k : Nat, k ≤ h.length ∧ iv = .int .i64 k ∧ (∀ j (hj : j < h.length), j < k → h[j].q = false ∧ (findV xs h[j]).2 = true) ∧ Below w6.heap.size w6 wr) (fun iv _ => h.length - (intOf iv).toNat)
      case atStart => exact ⟨0, Nat.zero_le _, rfl, (fun j hj h => absurd h (by omega)), Below.refl _ _⟩
      case round =>
        obtain ⟨k, hk, rfl, hall, hbr⟩ := hrel
        have HAL : Hid (∀ j (hj : j < h.length), j < k → h[j].q = false ∧ (findV xs h[j]).2 = true) := hall
        clear hall
        by_cases hkn : k < h.length
        · have hkn' : (k : Int) < h.length := by omega
          have hk0 : (0 : Int) ≤ k := by omega
          obtain ⟨g, o, rfl⟩ := F_h.some' (by omega)
          have hfo := (hOk_parts HH.out).1 h[k] (List.getElem_mem hkn)
          have hfz := fOk_size hfo
          have hfd := fun (w' : World) (h1 : Fs w' a3 xs.length c3 xs) => implTableFind xs a3 _ c3 max h[k] w' h1 (tOk_bd HX.out) (by omega) (by omega) (by omega)
          rw [tabFind_ok HX.out hfo] at hfd
          have hat := fun (w' : World) (h1 : Fs w' (some ⟨g, o, none⟩) h.length ch h) => h1.at k hkn
          have HQ : Hid (∀ q : Bool, h[k].q = q → (findV xs h[k]).2 = true → q = false → ∀ j (hj : j < h.length), j < k + 1 → h[j].q = false ∧ (findV xs h[j]).2 = true) := by
            intro q e1 e2 e3 j hj hjk
            by_cases e : j = k
            · subst e; exact ⟨e1.trans e3, e2⟩
            · exact HAL.out j hj (by omega)
          obtain ⟨⟨p, all⟩, hpa⟩ : ∃ r, findV xs h[k] = r := ⟨_, rfl⟩
          rw [hpa] at hfd HQ
          obtain ⟨f, hff⟩ : ∃ f, h[k] = f := ⟨_, rfl⟩
          rw [hff] at hfd hat HQ
          unfold Fd.val at hfd
          dsimp only at hfd HQ
          have hX2 := F_x.below hbr
          have hC2 := blkB hbr C_x
          have hH2 := F_h.below hbr
          obtain ⟨x0, x1⟩ := row2c hC2
          obtain ⟨y0, y1, y2⟩ := hat _ hH2
          have hS : wr.cell? ⟨w3.heap.size, 0, none⟩ = some (.slice a3 xs.length c3) ∧ wr.cell? ⟨w3.heap.size, 1, none⟩ = some (.int .i64 max) ∧ wr.cell? ⟨g, o + k * 3, none⟩ = some (.string f.n) ∧ wr.cell? ⟨g, o + k * 3 + 1, none⟩ = some (.string f.v) ∧ wr.cell? ⟨g, o + k * 3 + 2, none⟩ = some (.bool f.q) := ⟨x0, x1, y0, y1, y2⟩
          have hSd : wr.drew.cell? ⟨w3.heap.size, 0, none⟩ = some (.slice a3 xs.length c3) ∧ wr.drew.cell? ⟨w3.heap.size, 1, none⟩ = some (.int .i64 max) ∧ wr.drew.cell? ⟨g, o + k * 3, none⟩ = some (.string f.n) ∧ wr.drew.cell? ⟨g, o + k * 3 + 1, none⟩ = some (.string f.v) ∧ wr.drew.cell? ⟨g, o + k * 3 + 2, none⟩ = some (.bool f.q) := hS
          have hX3 : Fs wr.drew a3 xs.length c3 xs := hX2.below ((Below.refl _ _).drew)
          have hB3 : Below w6.heap.size w6 wr.drew := hbr.drew
          have hH3 : Fs wr.drew (some ⟨g, o, none⟩) h.length ch h := hH2.below ((Below.refl _ _).drew)
          clear hff hpa HAL hfo hfz hX2 hC2 hH2 hbr x0 x1 y0 y1 y2
          cases all with
          | false =>
            go_wp2
            go_region_held3 (fun w' => w'.cell? ⟨w3.heap.size, 0, none⟩ = some (.slice a3 xs.length c3) ∧ w'.cell? ⟨w3.heap.size, 1, none⟩ = some (.int .i64 max) ∧ w'.cell? ⟨g, o + k * 3, none⟩ = some (.string f.n) ∧ w'.cell? ⟨g, o + k * 3 + 1, none⟩ = some (.string f.v) ∧ w'.cell? ⟨g, o + k * 3 + 2, none⟩ = some (.bool f.q)) (first | with_reducible assumption) ((go_at_call 23; refine (hfd _ hX3).mono ?_; clear hfd; rintro e w9 ⟨rfl, hb9⟩; have hB9 := bt' hB3 hb9; have hS9 : w9.cell? ⟨w3.heap.size, 0, none⟩ = some (.slice a3 xs.length c3) ∧ w9.cell? ⟨w3.heap.size, 1, none⟩ = some (.int .i64 max) ∧ w9.cell? ⟨g, o + k * 3, none⟩ = some (.string f.n) ∧ w9.cell? ⟨g, o + k * 3 + 1, none⟩ = some (.string f.v) ∧ w9.cell? ⟨g, o + k * 3 + 2, none⟩ = some (.bool f.q) := ⟨keepc hb9 hSd.1, keepc hb9 hSd.2.1, keepc hb9 hSd.2.2.1, keepc hb9 hSd.2.2.2.1, keepc hb9 hSd.2.2.2.2⟩))
            all_goals
              go_wp2
              go_ret
              exact ⟨rfl, bt' hB1 hB9⟩
          | true =>
            obtain ⟨q, hq⟩ : ∃ q, f.q = q := ⟨_, rfl⟩
            rw [hq] at hS hSd hfd
            have HQ2 : Hid (q = false → ∀ j (hj : j < h.length), j < k + 1 → h[j].q = false ∧ (findV xs h[j]).2 = true) := HQ.out q hq rfl
            clear HQ hq hat
            cases q with
            | true =>
              go_wp2
              go_region_held3 (fun w' => w'.cell? ⟨w3.heap.size, 0, none⟩ = some (.slice a3 xs.length c3) ∧ w'.cell? ⟨w3.heap.size, 1, none⟩ = some (.int .i64 max) ∧ w'.cell? ⟨g, o + k * 3, none⟩ = some (.string f.n) ∧ w'.cell? ⟨g, o + k * 3 + 1, none⟩ = some (.string f.v) ∧ w'.cell? ⟨g, o + k * 3 + 2, none⟩ = some (.bool true)) (first | with_reducible assumption) ((go_at_call 23; refine (hfd _ hX3).mono ?_; clear hfd; rintro e w9 ⟨rfl, hb9⟩; have hB9 := bt' hB3 hb9; have hS9 : w9.cell? ⟨w3.heap.size, 0, none⟩ = some (.slice a3 xs.length c3) ∧ w9.cell? ⟨w3.heap.size, 1, none⟩ = some (.int .i64 max) ∧ w9.cell? ⟨g, o + k * 3, none⟩ = some (.string f.n) ∧ w9.cell? ⟨g, o + k * 3 + 1, none⟩ = some (.string f.v) ∧ w9.cell? ⟨g, o + k * 3 + 2, none⟩ = some (.bool true) := ⟨keepc hb9 hSd.1, keepc hb9 hSd.2.1, keepc hb9 hSd.2.2.1, keepc hb9 hSd.2.2.2.1, keepc hb9 hSd.2.2.2.2⟩; obtain ⟨_, _, _, _, z2⟩ := id hS9))
              all_goals
                go_wp2
                go_ret
                exact ⟨rfl, bt' hB1 hB9⟩
            | false =>
              go_wp2
              go_region_held3 (fun w' => w'.cell? ⟨w3.heap.size, 0, none⟩ = some (.slice a3 xs.length c3) ∧ w'.cell? ⟨w3.heap.size, 1, none⟩ = some (.int .i64 max) ∧ w'.cell? ⟨g, o + k * 3, none⟩ = some (.string f.n) ∧ w'.cell? ⟨g, o + k * 3 + 1, none⟩ = some (.string f.v) ∧ w'.cell? ⟨g, o + k * 3 + 2, none⟩ = some (.bool false)) (first | with_reducible assumption) ((go_at_call 23; refine (hfd _ hX3).mono ?_; clear hfd; rintro e w9 ⟨rfl, hb9⟩; have hB9 := bt' hB3 hb9; have hS9 : w9.cell? ⟨w3.heap.size, 0, none⟩ = some (.slice a3 xs.length c3) ∧ w9.cell? ⟨w3.heap.size, 1, none⟩ = some (.int .i64 max) ∧ w9.cell? ⟨g, o + k * 3, none⟩ = some (.string f.n) ∧ w9.cell? ⟨g, o + k * 3 + 1, none⟩ = some (.string f.v) ∧ w9.cell? ⟨g, o + k * 3 + 2, none⟩ = some (.bool false) := ⟨keepc hb9 hSd.1, keepc hb9 hSd.2.1, keepc hb9 hSd.2.2.1, keepc hb9 hSd.2.2.2.1, keepc hb9 hSd.2.2.2.2⟩; obtain ⟨_, _, _, _, z2⟩ := id hS9))
              all_goals
                go_wp2
                go_roundw
                case rel => exact ⟨k + 1, by omega, by go_num, (by first | exact HQ2.out trivial | exact HQ2.out rfl), hB9⟩
                case measure => simp [intOf]; omega
        · have hkn' : ¬ (k : Int) < h.length := by omega
          obtain rfl : k = h.length := by omega
          obtain ⟨e1, e2⟩ := wrH_again HX.out h (fun f hf => by
            obtain ⟨j, hj, rfl⟩ := List.getElem_of_mem hf
            exact HAL.out j hj hj)
          have hIA := fun (w' : World) (h1 : Fs w' a3 xs.length c3 xs) (h2 : Fs w' ah h.length ch h) => implHeadWrite xs h a3 ah _ c3 _ ch max w' h1 (tOk_bd HX.out) (by omega) h2 DH.out.bd (by omega)
          rw [hWr_ok HX.out HH.out, e1] at hIA
          obtain ⟨gs, hgs⟩ : ∃ gs, (wrH xs max h).2 = gs := ⟨_, rfl⟩
          rw [hgs] at hIA e2
          unfold HwOwn at hIA
          dsimp only at hIA
          have e3 : (gs.size : Int) = h.length := by omega
          clear hgs e1
          replace F_x := F_x.below hbr
          replace F_h := F_h.below hbr
          replace C_x := blkB hbr C_x
          have hBn := bt' hB1 hbr
          clear hB1
          have hB1 := hBn
          clear hBn
          (try clear T_x0 T_x1)
          obtain ⟨T_x0, T_x1⟩ := row2c C_x
          have hL2 := fun (w' : World) (x y : Option Addr) (p q : Nat) (h1 : Fs w' x xs.length p xs) (h2 : Fs w' y xs.length q xs) => lkTable_same xs x y p q max w' h1 h2 (by omega)
          go_wp2_with (first | (go_at_call 16; refine (hIA _ F_x F_h).mono ?_; clear hIA; rintro e w7 ⟨v7, rfl, hown, hbx⟩; replace F_x := F_x.below hbx; replace F_h := F_h.below hbx; replace C_x := blkB hbx C_x; have hBn := bt' hB1 hbx; clear hB1; have hB1 := hBn; clear hBn; clear hbx; obtain ⟨a7, c7, rfl⟩ := own_formT hown; have F_q := own_Fs hown; clear hown; have hbA : Below w7.heap.size w7 (w7.alloc (.cells #[.slice a7 xs.length c7, .int .i64 max] 25)) := (Below.refl _ _).alloc (Nat.le_refl _) _; replace F_x := F_x.below hbA; replace F_h := F_h.below hbA; replace F_q := F_q.below hbA; replace C_x := blkB hbA C_x; have hBn := bt' hB1 hbA; clear hB1; have hB1 := hBn; clear hBn; clear hbA; have C_q : (w7.alloc (.cells #[.slice a7 xs.length c7, .int .i64 max] 25)).heap[w7.heap.size]? = some (.cells #[.slice a7 xs.length c7, .int .i64 max] 25 (0, 0)) := heap_alloc_last w7 _; (try clear T_x0 T_x1); (try clear T_q0 T_q1); obtain ⟨T_x0, T_x1⟩ := row2c C_x; obtain ⟨T_q0, T_q1⟩ := row2c C_q; skip) | (go_at_call 17; refine (hL2 _ _ _ _ _ F_q F_x).mono ?_; clear hL2; rintro e w8 ⟨rfl, hbx⟩; replace F_x := F_x.below hbx; replace F_h := F_h.below hbx; replace F_q := F_q.below hbx; replace C_x := blkB hbx C_x; replace C_q := blkB hbx C_q; have hBn := bt' hB1 hbx; clear hB1; have hB1 := hBn; clear hBn; clear hbx; (try clear T_x0 T_x1); (try clear T_q0 T_q1); obtain ⟨T_x0, T_x1⟩ := row2c C_x; obtain ⟨T_q0, T_q1⟩ := row2c C_q; skip))
          go_ret
          exact ⟨rfl, hB1⟩
end Go.Proofs.Ytbhoafiolalgaaa
