import Derived.Test.YtbhoafiolalgaaaHL0
import Derived.Test.YtbhoafiolalgaaaHI7
import Derived.Test.YtbhoafiolalgaaaHI4
import Derived.Test.YtbhoafiolalgaaaHD2
import Derived.Deep.RegionHeld3
import Derived.Maps.RangeWalk
import Derived.Test.YtbhoafiolalgaaaHM3
namespace Go.Proofs.Ytbhoafiolalgaaa
open Go.RowKit
set_option linter.unusedVariables false

theorem take_nev (h : List Fd) (k : Nat) (hk : k < h.length) : (h.take k).map nevF ++ [nevF h[k]] = (h.take (k + 1)).map nevF := by
  rw [List.take_add_one, List.getElem?_eq_getElem hk, Option.toList_some, List.map_append]
  rfl
theorem nev_sm {h : List Fd} (hs : fsSm h) : fsSm (h.map nevF) := by
  intro f hf
  obtain ⟨x, hx, rfl⟩ := List.mem_map.1 hf
  exact hs x hx
set_option maxRecDepth 100000 in
set_option maxHeartbeats 20000000 in
theorem fnHeadNever_walk (a0 : Option Addr) (len0 cap0 : Nat) (z0 : List Int) (w : World) (w0 : Row w a0 len0 cap0 z0) :
    Calls Try.prog 7 #[.slice a0 len0 cap0] w fun e w' => e = .returned (.bool true) ∧ Below w.heap.size w w' := by
  by_cases c0 : (1048576 : Int) < len0
  · clear w0
    go_enter Try.func7, Try.ntmps7
    go_wp2
    go_ret
    exact ⟨rfl, Below.refl _ _⟩
  have R0 : Hid (Row w a0 len0 cap0 z0) := w0
  clear w0
  go_enter Try.func7, Try.ntmps7
  go_wp2_with fail
  refine (drawHeadWrite _ _ _ _ _ R0.out).mono ?_
  rintro e w1 ⟨fs, h, max, a', ah, c', ch, rfl, ⟨lF, sF, F_t⟩, ⟨lH, sH, F_h⟩, hB1⟩
  have DS : Hid (fsSm fs) := sF
  have DH : Hid (fsSm h) := sH
  clear sF sH R0
  have hbA : Below w1.heap.size w1 (w1.alloc (.cells #[.slice a' fs.length c', .int .i64 max] 25)) := (Below.refl _ _).alloc (Nat.le_refl _) _
  replace F_t := F_t.below hbA
  replace F_h := F_h.below hbA
  have hBn := bt' hB1 hbA
  clear hB1
  have hB1 := hBn
  clear hBn
  clear hbA
  have C_t : (w1.alloc (.cells #[.slice a' fs.length c', .int .i64 max] 25)).heap[w1.heap.size]? = some (.cells #[.slice a' fs.length c', .int .i64 max] 25 (0, 0)) := heap_alloc_last w1 _
  (try clear T_t0 T_t1)
  obtain ⟨T_t0, T_t1⟩ := row2c C_t
  cases ht : tOk fs max with
  | false =>
    have hSW := fun (w' : World) (h1 : Fs w' a' fs.length c' fs) (h2 : Fs w' ah h.length ch h) => specHeadWrite fs h a' ah _ c' _ ch max w' h1 DS.out.bd (by omega) h2 DH.out.bd (by omega)
    have hIW := fun (w' : World) (h1 : Fs w' a' fs.length c' fs) (h2 : Fs w' ah h.length ch h) => implHeadWrite fs h a' ah _ c' _ ch max w' h1 DS.out.bd (by omega) h2 DH.out.bd (by omega)
    have hTO := fun (w' : World) (h1 : Fs w' a' fs.length c' fs) => specTableOk fs a' _ c' max w' h1 DS.out.bd (by omega)
    rw [hWr_bad (by rw [ht]; rfl)] at hSW hIW
    rw [ht] at hTO
    unfold HwAns at hSW
    unfold HwOwn at hIW
    dsimp only at hSW hIW
    have hL1 := fun (w' : World) (x y : Option Addr) (p q : Nat) (h1 : Fs w' x ([] : List Fd).length p ([] : List Fd)) (h2 : Fs w' y ([] : List Fd).length q ([] : List Fd)) => lkTable_same ([] : List Fd) x y p q 0 w' h1 h2 (by decide)
    have hL2 := fun (w' : World) (x y : Option Addr) (p q : Nat) (h1 : Fs w' x ([] : List Fd).length p ([] : List Fd)) (h2 : Fs w' y ([] : List Fd).length q ([] : List Fd)) => lkTable_same ([] : List Fd) x y p q 0 w' h1 h2 (by decide)
    simp only [List.length_nil] at hIW hL1 hL2
    clear ht
    go_wp2_with (first | (go_at_call 15; refine (hSW _ F_t F_h).mono ?_; clear hSW; rintro e w2 ⟨a2, n2, c2, rfl, F_y, hbx⟩; replace F_t := F_t.below hbx; replace F_h := F_h.below hbx; replace C_t := blkB hbx C_t; have hBn := bt' hB1 hbx; clear hB1; have hB1 := hBn; clear hBn; clear hbx; obtain rfl : n2 = 0 := F_y.len.symm; have hbA : Below w2.heap.size w2 (w2.alloc (.cells #[.slice a2 0 c2, .int .i64 0] 25)) := (Below.refl _ _).alloc (Nat.le_refl _) _; replace F_t := F_t.below hbA; replace F_h := F_h.below hbA; replace F_y := F_y.below hbA; replace C_t := blkB hbA C_t; have hBn := bt' hB1 hbA; clear hB1; have hB1 := hBn; clear hBn; clear hbA; have C_y : (w2.alloc (.cells #[.slice a2 0 c2, .int .i64 0] 25)).heap[w2.heap.size]? = some (.cells #[.slice a2 0 c2, .int .i64 0] 25 (0, 0)) := heap_alloc_last w2 _; (try clear T_t0 T_t1); (try clear T_y0 T_y1); obtain ⟨T_t0, T_t1⟩ := row2c C_t; obtain ⟨T_y0, T_y1⟩ := row2c C_y; skip) | (go_at_call 16; refine (hIW _ F_t F_h).mono ?_; clear hIW; rintro e w3 ⟨v3, rfl, hown, hbx⟩; replace F_t := F_t.below hbx; replace F_h := F_h.below hbx; replace F_y := F_y.below hbx; replace C_t := blkB hbx C_t; replace C_y := blkB hbx C_y; have hBn := bt' hB1 hbx; clear hB1; have hB1 := hBn; clear hBn; clear hbx; obtain ⟨a3, c3, rfl⟩ := own_formT hown; have F_x := own_Fs hown; clear hown; have hbA : Below w3.heap.size w3 (w3.alloc (.cells #[.slice a3 0 c3, .int .i64 0] 25)) := (Below.refl _ _).alloc (Nat.le_refl _) _; replace F_t := F_t.below hbA; replace F_h := F_h.below hbA; replace F_y := F_y.below hbA; replace F_x := F_x.below hbA; replace C_t := blkB hbA C_t; replace C_y := blkB hbA C_y; have hBn := bt' hB1 hbA; clear hB1; have hB1 := hBn; clear hBn; clear hbA; have C_x : (w3.alloc (.cells #[.slice a3 0 c3, .int .i64 0] 25)).heap[w3.heap.size]? = some (.cells #[.slice a3 0 c3, .int .i64 0] 25 (0, 0)) := heap_alloc_last w3 _; (try clear T_t0 T_t1); (try clear T_y0 T_y1); (try clear T_x0 T_x1); obtain ⟨T_t0, T_t1⟩ := row2c C_t; obtain ⟨T_y0, T_y1⟩ := row2c C_y; obtain ⟨T_x0, T_x1⟩ := row2c C_x; skip) | (go_at_call 17; refine (hL1 _ _ _ _ _ F_x F_y).mono ?_; clear hL1; rintro e w4 ⟨rfl, hbx⟩; replace F_t := F_t.below hbx; replace F_h := F_h.below hbx; replace F_y := F_y.below hbx; replace F_x := F_x.below hbx; replace C_t := blkB hbx C_t; replace C_y := blkB hbx C_y; replace C_x := blkB hbx C_x; have hBn := bt' hB1 hbx; clear hB1; have hB1 := hBn; clear hBn; clear hbx; (try clear T_t0 T_t1); (try clear T_y0 T_y1); (try clear T_x0 T_x1); obtain ⟨T_t0, T_t1⟩ := row2c C_t; obtain ⟨T_y0, T_y1⟩ := row2c C_y; obtain ⟨T_x0, T_x1⟩ := row2c C_x; skip) | (go_at_call 18; refine (hTO _ F_t).mono ?_; clear hTO; rintro e w5 ⟨rfl, hbx⟩; replace F_t := F_t.below hbx; replace F_h := F_h.below hbx; replace F_y := F_y.below hbx; replace F_x := F_x.below hbx; replace C_t := blkB hbx C_t; replace C_y := blkB hbx C_y; replace C_x := blkB hbx C_x; have hBn := bt' hB1 hbx; clear hB1; have hB1 := hBn; clear hBn; clear hbx; (try clear T_t0 T_t1); (try clear T_y0 T_y1); (try clear T_x0 T_x1); obtain ⟨T_t0, T_t1⟩ := row2c C_t; obtain ⟨T_y0, T_y1⟩ := row2c C_y; obtain ⟨T_x0, T_x1⟩ := row2c C_x; skip) | (go_at_call 17; refine (hL2 _ _ _ _ _ F_x F_y).mono ?_; clear hL2; rintro e w6 ⟨rfl, hbx⟩; replace F_t := F_t.below hbx; replace F_h := F_h.below hbx; replace F_y := F_y.below hbx; replace F_x := F_x.below hbx; replace C_t := blkB hbx C_t; replace C_y := blkB hbx C_y; replace C_x := blkB hbx C_x; have hBn := bt' hB1 hbx; clear hB1; have hB1 := hBn; clear hBn; clear hbx; (try clear T_t0 T_t1); (try clear T_y0 T_y1); (try clear T_x0 T_x1); obtain ⟨T_t0, T_t1⟩ := row2c C_t; obtain ⟨T_y0, T_y1⟩ := row2c C_y; obtain ⟨T_x0, T_x1⟩ := row2c C_x; skip))
    go_ret
    exact ⟨rfl, hB1⟩
  | true =>
    cases hh : hOk h with
    | false =>
      have hSW := fun (w' : World) (h1 : Fs w' a' fs.length c' fs) (h2 : Fs w' ah h.length ch h) => specHeadWrite fs h a' ah _ c' _ ch max w' h1 DS.out.bd (by omega) h2 DH.out.bd (by omega)
      have hIW := fun (w' : World) (h1 : Fs w' a' fs.length c' fs) (h2 : Fs w' ah h.length ch h) => implHeadWrite fs h a' ah _ c' _ ch max w' h1 DS.out.bd (by omega) h2 DH.out.bd (by omega)
      have hTO := fun (w' : World) (h1 : Fs w' a' fs.length c' fs) => specTableOk fs a' _ c' max w' h1 DS.out.bd (by omega)
      have hHO := fun (w' : World) (h1 : Fs w' ah h.length ch h) => specHeadOk h ah _ ch w' h1 DH.out.bd (by omega)
      rw [hWr_bad (by rw [ht, hh]; rfl)] at hSW hIW
      rw [ht] at hTO
      rw [hh] at hHO
      unfold HwAns at hSW
      unfold HwOwn at hIW
      dsimp only at hSW hIW
      have hL1 := fun (w' : World) (x y : Option Addr) (p q : Nat) (h1 : Fs w' x ([] : List Fd).length p ([] : List Fd)) (h2 : Fs w' y ([] : List Fd).length q ([] : List Fd)) => lkTable_same ([] : List Fd) x y p q 0 w' h1 h2 (by decide)
      have hL2 := fun (w' : World) (x y : Option Addr) (p q : Nat) (h1 : Fs w' x ([] : List Fd).length p ([] : List Fd)) (h2 : Fs w' y ([] : List Fd).length q ([] : List Fd)) => lkTable_same ([] : List Fd) x y p q 0 w' h1 h2 (by decide)
      simp only [List.length_nil] at hIW hL1 hL2
      clear ht hh
      go_wp2_with (first | (go_at_call 15; refine (hSW _ F_t F_h).mono ?_; clear hSW; rintro e w2 ⟨a2, n2, c2, rfl, F_y, hbx⟩; replace F_t := F_t.below hbx; replace F_h := F_h.below hbx; replace C_t := blkB hbx C_t; have hBn := bt' hB1 hbx; clear hB1; have hB1 := hBn; clear hBn; clear hbx; obtain rfl : n2 = 0 := F_y.len.symm; have hbA : Below w2.heap.size w2 (w2.alloc (.cells #[.slice a2 0 c2, .int .i64 0] 25)) := (Below.refl _ _).alloc (Nat.le_refl _) _; replace F_t := F_t.below hbA; replace F_h := F_h.below hbA; replace F_y := F_y.below hbA; replace C_t := blkB hbA C_t; have hBn := bt' hB1 hbA; clear hB1; have hB1 := hBn; clear hBn; clear hbA; have C_y : (w2.alloc (.cells #[.slice a2 0 c2, .int .i64 0] 25)).heap[w2.heap.size]? = some (.cells #[.slice a2 0 c2, .int .i64 0] 25 (0, 0)) := heap_alloc_last w2 _; (try clear T_t0 T_t1); (try clear T_y0 T_y1); obtain ⟨T_t0, T_t1⟩ := row2c C_t; obtain ⟨T_y0, T_y1⟩ := row2c C_y; skip) | (go_at_call 16; refine (hIW _ F_t F_h).mono ?_; clear hIW; rintro e w3 ⟨v3, rfl, hown, hbx⟩; replace F_t := F_t.below hbx; replace F_h := F_h.below hbx; replace F_y := F_y.below hbx; replace C_t := blkB hbx C_t; replace C_y := blkB hbx C_y; have hBn := bt' hB1 hbx; clear hB1; have hB1 := hBn; clear hBn; clear hbx; obtain ⟨a3, c3, rfl⟩ := own_formT hown; have F_x := own_Fs hown; clear hown; have hbA : Below w3.heap.size w3 (w3.alloc (.cells #[.slice a3 0 c3, .int .i64 0] 25)) := (Below.refl _ _).alloc (Nat.le_refl _) _; replace F_t := F_t.below hbA; replace F_h := F_h.below hbA; replace F_y := F_y.below hbA; replace F_x := F_x.below hbA; replace C_t := blkB hbA C_t; replace C_y := blkB hbA C_y; have hBn := bt' hB1 hbA; clear hB1; have hB1 := hBn; clear hBn; clear hbA; have C_x : (w3.alloc (.cells #[.slice a3 0 c3, .int .i64 0] 25)).heap[w3.heap.size]? = some (.cells #[.slice a3 0 c3, .int .i64 0] 25 (0, 0)) := heap_alloc_last w3 _; (try clear T_t0 T_t1); (try clear T_y0 T_y1); (try clear T_x0 T_x1); obtain ⟨T_t0, T_t1⟩ := row2c C_t; obtain ⟨T_y0, T_y1⟩ := row2c C_y; obtain ⟨T_x0, T_x1⟩ := row2c C_x; skip) | (go_at_call 17; refine (hL1 _ _ _ _ _ F_x F_y).mono ?_; clear hL1; rintro e w4 ⟨rfl, hbx⟩; replace F_t := F_t.below hbx; replace F_h := F_h.below hbx; replace F_y := F_y.below hbx; replace F_x := F_x.below hbx; replace C_t := blkB hbx C_t; replace C_y := blkB hbx C_y; replace C_x := blkB hbx C_x; have hBn := bt' hB1 hbx; clear hB1; have hB1 := hBn; clear hBn; clear hbx; (try clear T_t0 T_t1); (try clear T_y0 T_y1); (try clear T_x0 T_x1); obtain ⟨T_t0, T_t1⟩ := row2c C_t; obtain ⟨T_y0, T_y1⟩ := row2c C_y; obtain ⟨T_x0, T_x1⟩ := row2c C_x; skip) | (go_at_call 18; refine (hTO _ F_t).mono ?_; clear hTO; rintro e w5 ⟨rfl, hbx⟩; replace F_t := F_t.below hbx; replace F_h := F_h.below hbx; replace F_y := F_y.below hbx; replace F_x := F_x.below hbx; replace C_t := blkB hbx C_t; replace C_y := blkB hbx C_y; replace C_x := blkB hbx C_x; have hBn := bt' hB1 hbx; clear hB1; have hB1 := hBn; clear hBn; clear hbx; (try clear T_t0 T_t1); (try clear T_y0 T_y1); (try clear T_x0 T_x1); obtain ⟨T_t0, T_t1⟩ := row2c C_t; obtain ⟨T_y0, T_y1⟩ := row2c C_y; obtain ⟨T_x0, T_x1⟩ := row2c C_x; skip) | (go_at_call 19; refine (hHO _ F_h).mono ?_; clear hHO; rintro e w6 ⟨rfl, hbx⟩; replace F_t := F_t.below hbx; replace F_h := F_h.below hbx; replace F_y := F_y.below hbx; replace F_x := F_x.below hbx; replace C_t := blkB hbx C_t; replace C_y := blkB hbx C_y; replace C_x := blkB hbx C_x; have hBn := bt' hB1 hbx; clear hB1; have hB1 := hBn; clear hBn; clear hbx; (try clear T_t0 T_t1); (try clear T_y0 T_y1); (try clear T_x0 T_x1); obtain ⟨T_t0, T_t1⟩ := row2c C_t; obtain ⟨T_y0, T_y1⟩ := row2c C_y; obtain ⟨T_x0, T_x1⟩ := row2c C_x; skip) | (go_at_call 17; refine (hL2 _ _ _ _ _ F_x F_y).mono ?_; clear hL2; rintro e w7 ⟨rfl, hbx⟩; replace F_t := F_t.below hbx; replace F_h := F_h.below hbx; replace F_y := F_y.below hbx; replace F_x := F_x.below hbx; replace C_t := blkB hbx C_t; replace C_y := blkB hbx C_y; replace C_x := blkB hbx C_x; have hBn := bt' hB1 hbx; clear hB1; have hB1 := hBn; clear hBn; clear hbx; (try clear T_t0 T_t1); (try clear T_y0 T_y1); (try clear T_x0 T_x1); obtain ⟨T_t0, T_t1⟩ := row2c C_t; obtain ⟨T_y0, T_y1⟩ := row2c C_y; obtain ⟨T_x0, T_x1⟩ := row2c C_x; skip))
      go_ret
      exact ⟨rfl, hB1⟩
    | true =>
      have hSW := fun (w' : World) (h1 : Fs w' a' fs.length c' fs) (h2 : Fs w' ah h.length ch h) => specHeadWrite fs h a' ah _ c' _ ch max w' h1 DS.out.bd (by omega) h2 DH.out.bd (by omega)
      have hIW := fun (w' : World) (h1 : Fs w' a' fs.length c' fs) (h2 : Fs w' ah h.length ch h) => implHeadWrite fs h a' ah _ c' _ ch max w' h1 DS.out.bd (by omega) h2 DH.out.bd (by omega)
      have hTO := fun (w' : World) (h1 : Fs w' a' fs.length c' fs) => specTableOk fs a' _ c' max w' h1 DS.out.bd (by omega)
      have hHO := fun (w' : World) (h1 : Fs w' ah h.length ch h) => specHeadOk h ah _ ch w' h1 DH.out.bd (by omega)
      obtain ⟨k1, k2, k3⟩ := wrH_len ht hh
      rw [hWr_ok ht hh] at hSW hIW
      rw [ht] at hTO
      rw [hh] at hHO
      obtain ⟨xs, hxs⟩ : ∃ xs, (wrH fs max h).1 = xs := ⟨_, rfl⟩
      obtain ⟨bs, hbs⟩ : ∃ bs, (wrH fs max h).2 = bs := ⟨_, rfl⟩
      rw [hxs, hbs] at hSW hIW
      rw [hxs] at k1 k2
      unfold HwAns at hSW
      unfold HwOwn at hIW
      dsimp only at hSW hIW
      have hL1 := fun (w' : World) (x y : Option Addr) (p q : Nat) (h1 : Fs w' x xs.length p xs) (h2 : Fs w' y xs.length q xs) => lkTable_same xs x y p q max w' h1 h2 (by omega)
      have HT : Hid (tOk fs max = true) := ht
      have HH : Hid (hOk h = true) := hh
      clear ht hh k1 k3 hxs hbs
      go_wp2_with (first | (go_at_call 15; refine (hSW _ F_t F_h).mono ?_; clear hSW; rintro e w2 ⟨a2, n2, c2, rfl, F_y, hbx⟩; replace F_t := F_t.below hbx; replace F_h := F_h.below hbx; replace C_t := blkB hbx C_t; have hBn := bt' hB1 hbx; clear hB1; have hB1 := hBn; clear hBn; clear hbx; obtain rfl := F_y.len; have hbA : Below w2.heap.size w2 (w2.alloc (.cells #[.slice a2 xs.length c2, .int .i64 max] 25)) := (Below.refl _ _).alloc (Nat.le_refl _) _; replace F_t := F_t.below hbA; replace F_h := F_h.below hbA; replace F_y := F_y.below hbA; replace C_t := blkB hbA C_t; have hBn := bt' hB1 hbA; clear hB1; have hB1 := hBn; clear hBn; clear hbA; have C_y : (w2.alloc (.cells #[.slice a2 xs.length c2, .int .i64 max] 25)).heap[w2.heap.size]? = some (.cells #[.slice a2 xs.length c2, .int .i64 max] 25 (0, 0)) := heap_alloc_last w2 _; (try clear T_t0 T_t1); (try clear T_y0 T_y1); obtain ⟨T_t0, T_t1⟩ := row2c C_t; obtain ⟨T_y0, T_y1⟩ := row2c C_y; skip) | (go_at_call 16; refine (hIW _ F_t F_h).mono ?_; clear hIW; rintro e w3 ⟨v3, rfl, hown, hbx⟩; replace F_t := F_t.below hbx; replace F_h := F_h.below hbx; replace F_y := F_y.below hbx; replace C_t := blkB hbx C_t; replace C_y := blkB hbx C_y; have hBn := bt' hB1 hbx; clear hB1; have hB1 := hBn; clear hBn; clear hbx; obtain ⟨a3, c3, rfl⟩ := own_formT hown; have F_x := own_Fs hown; clear hown; have hbA : Below w3.heap.size w3 (w3.alloc (.cells #[.slice a3 xs.length c3, .int .i64 max] 25)) := (Below.refl _ _).alloc (Nat.le_refl _) _; replace F_t := F_t.below hbA; replace F_h := F_h.below hbA; replace F_y := F_y.below hbA; replace F_x := F_x.below hbA; replace C_t := blkB hbA C_t; replace C_y := blkB hbA C_y; have hBn := bt' hB1 hbA; clear hB1; have hB1 := hBn; clear hBn; clear hbA; have C_x : (w3.alloc (.cells #[.slice a3 xs.length c3, .int .i64 max] 25)).heap[w3.heap.size]? = some (.cells #[.slice a3 xs.length c3, .int .i64 max] 25 (0, 0)) := heap_alloc_last w3 _; (try clear T_t0 T_t1); (try clear T_y0 T_y1); (try clear T_x0 T_x1); obtain ⟨T_t0, T_t1⟩ := row2c C_t; obtain ⟨T_y0, T_y1⟩ := row2c C_y; obtain ⟨T_x0, T_x1⟩ := row2c C_x; skip) | (go_at_call 17; refine (hL1 _ _ _ _ _ F_x F_y).mono ?_; clear hL1; rintro e w4 ⟨rfl, hbx⟩; replace F_t := F_t.below hbx; replace F_h := F_h.below hbx; replace F_y := F_y.below hbx; replace F_x := F_x.below hbx; replace C_t := blkB hbx C_t; replace C_y := blkB hbx C_y; replace C_x := blkB hbx C_x; have hBn := bt' hB1 hbx; clear hB1; have hB1 := hBn; clear hBn; clear hbx; (try clear T_t0 T_t1); (try clear T_y0 T_y1); (try clear T_x0 T_x1); obtain ⟨T_t0, T_t1⟩ := row2c C_t; obtain ⟨T_y0, T_y1⟩ := row2c C_y; obtain ⟨T_x0, T_x1⟩ := row2c C_x; skip) | (go_at_call 18; refine (hTO _ F_t).mono ?_; clear hTO; rintro e w5 ⟨rfl, hbx⟩; replace F_t := F_t.below hbx; replace F_h := F_h.below hbx; replace F_y := F_y.below hbx; replace F_x := F_x.below hbx; replace C_t := blkB hbx C_t; replace C_y := blkB hbx C_y; replace C_x := blkB hbx C_x; have hBn := bt' hB1 hbx; clear hB1; have hB1 := hBn; clear hBn; clear hbx; (try clear T_t0 T_t1); (try clear T_y0 T_y1); (try clear T_x0 T_x1); obtain ⟨T_t0, T_t1⟩ := row2c C_t; obtain ⟨T_y0, T_y1⟩ := row2c C_y; obtain ⟨T_x0, T_x1⟩ := row2c C_x; skip) | (go_at_call 19; refine (hHO _ F_h).mono ?_; clear hHO; rintro e w6 ⟨rfl, hbx⟩; replace F_t := F_t.below hbx; replace F_h := F_h.below hbx; replace F_y := F_y.below hbx; replace F_x := F_x.below hbx; replace C_t := blkB hbx C_t; replace C_y := blkB hbx C_y; replace C_x := blkB hbx C_x; have hBn := bt' hB1 hbx; clear hB1; have hB1 := hBn; clear hBn; clear hbx; (try clear T_t0 T_t1); (try clear T_y0 T_y1); (try clear T_x0 T_x1); obtain ⟨T_t0, T_t1⟩ := row2c C_t; obtain ⟨T_y0, T_y1⟩ := row2c C_y; obtain ⟨T_x0, T_x1⟩ := row2c C_x; skip))
      have hz : (w6.alloc (.cells #[] 41)).ownsRow w6.heap.size 41 3 (.slice (some ⟨w6.heap.size, 0, none⟩) 0 0) 0 [] := own_zero3 w6 41
      have hbz : Below w6.heap.size w6 (w6.alloc (.cells #[] 41)) := (Below.refl _ _).alloc (Nat.le_refl _) _
      clear T_t0 T_t1 T_x0 T_x1 T_y0 T_y1 C_x C_y F_x F_y
      have hh6 := (hOk_parts HH.out).2
      go_loopw [9, 10] (fun hv iv wr => ∃ (k : Nat) (a : Option Addr) (c : Nat), k ≤ h.length ∧ iv = .int .i64 k ∧ hv = .slice a k c ∧ wr.ownsRow w6.heap.size 41 3 (.slice a k c) k (cellsF ((h.take k).map nevF)) ∧ Below w6.heap.size w6 wr) (fun _ iv _ => h.length - (intOf iv).toNat)
      case atStart => exact ⟨0, _, 0, Nat.zero_le _, rfl, rfl, hz, hbz⟩
      case round =>
        clear hz hbz
        obtain ⟨k, a, c, hk, rfl, rfl, hO, hbr⟩ := hrel
        have hzr := hbr.size
        by_cases hkn : k < h.length
        · have hkn' : (k : Int) < h.length := by omega
          have hk0 : (0 : Int) ≤ k := by omega
          obtain ⟨g, o, rfl⟩ := F_h.some' (by omega)
          obtain ⟨c0, c1, c2⟩ := (F_h.below hbr).at k hkn
          have hnv := take_nev h k hkn
          obtain ⟨f, hff⟩ : ∃ f, h[k] = f := ⟨_, rfl⟩
          rw [hff] at c0 c1 c2 hnv
          have HE : Hid (((wr.alloc (.cells #[.string f.n, .string f.v, .bool true] 41)).alloc (.cells #[.string f.n, .string f.v, .bool true] 41)).ownsRow w6.heap.size 41 3 (.slice a k c) k (cellsF ((h.take k).map nevF))) := (hO.alloc _).alloc _
          have HX : Hid (Fs ((wr.alloc (.cells #[.string f.n, .string f.v, .bool true] 41)).alloc (.cells #[.string f.n, .string f.v, .bool true] 41)) (some ⟨wr.heap.size + 1, 0, none⟩) 1 1 [nevF f]) := by
            have := Fs_one3 (wr.alloc (.cells #[.string f.n, .string f.v, .bool true] 41)) (nevF f)
            rw [World.size_alloc] at this
            exact this
          have hbE : Below w6.heap.size w6 ((wr.alloc (.cells #[.string f.n, .string f.v, .bool true] 41)).alloc (.cells #[.string f.n, .string f.v, .bool true] 41)) := (hbr.alloc hbr.size _).alloc (by rw [World.size_alloc]; omega) _
          clear hbr hO
          go_wp2_with (at_builtin; refine wpList_appFs _ rfl _ _ rfl w6.heap.size _ _ _ rfl HE.out (some ⟨wr.heap.size + 1, 0, none⟩) 1 1 [nevF f] rfl HX.out (by omega) (by simp; omega) ?_; intro v9 w9 hown9 hgrow9)
          have hb9 : Below w6.heap.size w6 w9 := hbE.grown hgrow9 hbE.size (fun q hq => by have := (HE.out.lt q hq).1; omega)
          obtain ⟨a9, c9, rfl⟩ := own_formT hown9
          rw [← cellsF_append, hnv] at hown9
          clear hgrow9 HE HX hbE
          go_wp2
          go_roundw
          case rel => exact ⟨k + 1, a9, c9, by omega, by go_num, rfl, hown9, hb9⟩
          case measure => simp [intOf]; omega
        · have hkn' : ¬ (k : Int) < h.length := by omega
          obtain rfl : k = h.length := by omega
          rw [List.take_length] at hO
          have hl : (h.map nevF).length = h.length := by rw [List.length_map]
          have hnok := hOk_nev HH.out
          obtain ⟨ns, hns⟩ : ∃ ns, h.map nevF = ns := ⟨_, rfl⟩
          have hq := nev_q h
          have hnb := (nev_sm DH.out).bd
          rw [hns] at hO hl hnok hq hnb
          have F_n := own_Fs hO
          have hwn := wrH_never fs max ns hq
          obtain ⟨_, _, k3⟩ := wrH_len HT.out hnok
          have hIN := fun (w' : World) (h1 : Fs w' a' fs.length c' fs) (h2 : Fs w' a h.length c ns) => implHeadWrite fs ns a' a _ c' _ c max w' h1 DS.out.bd (by omega) h2 hnb (by omega)
          have hRN := fun (w' : World) (h1 : Fs w' a' fs.length c' fs) => implHeadRead fs a' _ c' max (wrH fs max ns).2 w' h1 DS.out.bd (by omega) (by unfold maxLen; omega)
          rw [hRd_back HT.out hnok, hwn] at hRN
          rw [hWr_ok HT.out hnok, hwn] at hIN
          obtain ⟨ds, hds⟩ : ∃ ds, (wrH fs max ns).2 = ds := ⟨_, rfl⟩
          rw [hds] at hIN hRN
          unfold HwOwn at hIN
          unfold HrOwn at hRN
          dsimp only at hIN hRN
          rw [hl] at hRN
          replace F_t := F_t.below hbr
          replace F_h := F_h.below hbr
          replace C_t := blkB hbr C_t
          have hBn := bt' hB1 hbr
          clear hB1
          have hB1 := hBn
          clear hBn
          (try clear T_t0 T_t1)
          obtain ⟨T_t0, T_t1⟩ := row2c C_t
          have hL2 := fun (w' : World) (x y : Option Addr) (p q : Nat) (h1 : Fs w' x fs.length p fs) (h2 : Fs w' y fs.length q fs) => lkTable_same fs x y p q max w' h1 h2 (by omega)
          have hL3 := fun (w' : World) (x y : Option Addr) (p q : Nat) (h1 : Fs w' x fs.length p fs) (h2 : Fs w' y fs.length q fs) => lkTable_same fs x y p q max w' h1 h2 (by omega)
          have hL4 := fun (w' : World) (x y : Option Addr) (p q : Nat) (h1 : Fs w' x h.length p ns) (h2 : Fs w' y h.length q ns) => lkFields_any ns ns x y _ p _ q w' h1 h2 (by omega) (by omega)
          rw [eqFs_self] at hL4
          clear hds hns hq hnb hwn k3 hO hnok
          go_wp2_with (first | (go_at_call 16; refine (hIN _ F_t F_n).mono ?_; clear hIN; rintro e w7 ⟨v7, rfl, hown, hbx⟩; replace F_t := F_t.below hbx; replace F_h := F_h.below hbx; replace F_n := F_n.below hbx; replace C_t := blkB hbx C_t; have hBn := bt' hB1 hbx; clear hB1; have hB1 := hBn; clear hBn; clear hbx; obtain ⟨a7, c7, rfl⟩ := own_formT hown; have F_q := own_Fs hown; clear hown; have hbA : Below w7.heap.size w7 (w7.alloc (.cells #[.slice a7 fs.length c7, .int .i64 max] 25)) := (Below.refl _ _).alloc (Nat.le_refl _) _; replace F_t := F_t.below hbA; replace F_h := F_h.below hbA; replace F_n := F_n.below hbA; replace F_q := F_q.below hbA; replace C_t := blkB hbA C_t; have hBn := bt' hB1 hbA; clear hB1; have hB1 := hBn; clear hBn; clear hbA; have C_q : (w7.alloc (.cells #[.slice a7 fs.length c7, .int .i64 max] 25)).heap[w7.heap.size]? = some (.cells #[.slice a7 fs.length c7, .int .i64 max] 25 (0, 0)) := heap_alloc_last w7 _; (try clear T_t0 T_t1); (try clear T_q0 T_q1); obtain ⟨T_t0, T_t1⟩ := row2c C_t; obtain ⟨T_q0, T_q1⟩ := row2c C_q; skip) | (go_at_call 20; refine (hRN _ F_t).mono ?_; clear hRN; rintro e w8 ⟨v8, u8, rfl, hown, hownu, _, hbx⟩; replace F_t := F_t.below hbx; replace F_h := F_h.below hbx; replace F_n := F_n.below hbx; replace F_q := F_q.below hbx; replace C_t := blkB hbx C_t; replace C_q := blkB hbx C_q; have hBn := bt' hB1 hbx; clear hB1; have hB1 := hBn; clear hBn; clear hbx; obtain ⟨a8, c8, rfl⟩ := own_formT hown; have F_z := own_Fs hown; obtain ⟨b8, d8, rfl⟩ := own_formT hownu; have F_g := own_Fs hownu; clear hown hownu; have hbA : Below w8.heap.size w8 (w8.alloc (.cells #[.slice a8 fs.length c8, .int .i64 max] 25)) := (Below.refl _ _).alloc (Nat.le_refl _) _; replace F_t := F_t.below hbA; replace F_h := F_h.below hbA; replace F_n := F_n.below hbA; replace F_q := F_q.below hbA; replace F_z := F_z.below hbA; replace F_g := F_g.below hbA; replace C_t := blkB hbA C_t; replace C_q := blkB hbA C_q; have hBn := bt' hB1 hbA; clear hB1; have hB1 := hBn; clear hBn; clear hbA; have C_z : (w8.alloc (.cells #[.slice a8 fs.length c8, .int .i64 max] 25)).heap[w8.heap.size]? = some (.cells #[.slice a8 fs.length c8, .int .i64 max] 25 (0, 0)) := heap_alloc_last w8 _; (try clear T_t0 T_t1); (try clear T_q0 T_q1); (try clear T_z0 T_z1); obtain ⟨T_t0, T_t1⟩ := row2c C_t; obtain ⟨T_q0, T_q1⟩ := row2c C_q; obtain ⟨T_z0, T_z1⟩ := row2c C_z; skip) | (go_at_call 17; refine (hL2 _ _ _ _ _ F_q F_t).mono ?_; clear hL2; rintro e w9 ⟨rfl, hbx⟩; replace F_t := F_t.below hbx; replace F_h := F_h.below hbx; replace F_n := F_n.below hbx; replace F_q := F_q.below hbx; replace F_z := F_z.below hbx; replace F_g := F_g.below hbx; replace C_t := blkB hbx C_t; replace C_q := blkB hbx C_q; replace C_z := blkB hbx C_z; have hBn := bt' hB1 hbx; clear hB1; have hB1 := hBn; clear hBn; clear hbx; (try clear T_t0 T_t1); (try clear T_q0 T_q1); (try clear T_z0 T_z1); obtain ⟨T_t0, T_t1⟩ := row2c C_t; obtain ⟨T_q0, T_q1⟩ := row2c C_q; obtain ⟨T_z0, T_z1⟩ := row2c C_z; skip) | (go_at_call 21; refine (hL4 _ _ _ _ _ F_g F_n).mono ?_; clear hL4; rintro e w10 ⟨rfl, hbx⟩; replace F_t := F_t.below hbx; replace F_h := F_h.below hbx; replace F_n := F_n.below hbx; replace F_q := F_q.below hbx; replace F_z := F_z.below hbx; replace F_g := F_g.below hbx; replace C_t := blkB hbx C_t; replace C_q := blkB hbx C_q; replace C_z := blkB hbx C_z; have hBn := bt' hB1 hbx; clear hB1; have hB1 := hBn; clear hBn; clear hbx; (try clear T_t0 T_t1); (try clear T_q0 T_q1); (try clear T_z0 T_z1); obtain ⟨T_t0, T_t1⟩ := row2c C_t; obtain ⟨T_q0, T_q1⟩ := row2c C_q; obtain ⟨T_z0, T_z1⟩ := row2c C_z; skip) | (go_at_call 17; refine (hL3 _ _ _ _ _ F_z F_t).mono ?_; clear hL3; rintro e w11 ⟨rfl, hbx⟩; replace F_t := F_t.below hbx; replace F_h := F_h.below hbx; replace F_n := F_n.below hbx; replace F_q := F_q.below hbx; replace F_z := F_z.below hbx; replace F_g := F_g.below hbx; replace C_t := blkB hbx C_t; replace C_q := blkB hbx C_q; replace C_z := blkB hbx C_z; have hBn := bt' hB1 hbx; clear hB1; have hB1 := hBn; clear hBn; clear hbx; (try clear T_t0 T_t1); (try clear T_q0 T_q1); (try clear T_z0 T_z1); obtain ⟨T_t0, T_t1⟩ := row2c C_t; obtain ⟨T_q0, T_q1⟩ := row2c C_q; obtain ⟨T_z0, T_z1⟩ := row2c C_z; skip))
          go_ret
          exact ⟨rfl, hB1⟩
end Go.Proofs.Ytbhoafiolalgaaa
