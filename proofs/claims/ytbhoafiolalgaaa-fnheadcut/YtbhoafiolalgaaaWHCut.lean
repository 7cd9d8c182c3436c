import Derived.Test.YtbhoafiolalgaaaHL0
import Derived.Test.YtbhoafiolalgaaaHI4
import Derived.Test.YtbhoafiolalgaaaHD2
import Derived.Deep.RegionHeld3
import Derived.Deep.DeepCutAuto
import Derived.Maps.RangeWalk
import Derived.Test.YtbhoafiolalgaaaHM3
import Derived.Test.YtbhoafiolalgaaaHC0
namespace Go.Proofs.Ytbhoafiolalgaaa
open Go.RowKit
set_option linter.unusedVariables false

set_option maxRecDepth 100000 in
set_option maxHeartbeats 20000000 in
theorem fnHeadCut_walk (a0 : Option Addr) (len0 cap0 : Nat) (z0 : List Int) (a1 : Option Addr) (len1 cap1 : Nat) (z1 : List Int) (w : World) (w0 : Row w a0 len0 cap0 z0) (w1 : Row w a1 len1 cap1 z1) :
    Calls Try.prog 5 #[.slice a0 len0 cap0, .slice a1 len1 cap1] w fun e w' => e = .returned (.bool true) ∧ Below w.heap.size w w' := by
  by_cases c0 : (1048576 : Int) < len0
  · clear w0 w1
    go_enter Try.func5, Try.ntmps5
    go_wp2
    go_ret
    exact ⟨rfl, Below.refl _ _⟩
  by_cases c1 : (1048576 : Int) < len1
  · clear w0 w1
    go_enter Try.func5, Try.ntmps5
    go_wp2
    go_ret
    exact ⟨rfl, Below.refl _ _⟩
  have R0 : Hid (Row w a0 len0 cap0 z0) := w0
  have R1 : Hid (Row w a1 len1 cap1 z1) := w1
  clear w0 w1
  go_enter Try.func5, Try.ntmps5
  go_wp2_with fail
  refine (drawHeadWrite _ _ _ _ _ R0.out).mono ?_
  rintro e w1 ⟨fs, h, max, a', ah, c', ch, rfl, ⟨lF, sF, F_t⟩, ⟨lH, sH, F_h⟩, hB1⟩
  have DS : Hid (fsSm fs) := sF
  have DH : Hid (fsSm h) := sH
  clear sF sH R0 R1
  have hbA : Below w1.heap.size w1 (w1.alloc (.cells #[.slice a' fs.length c', .int .i64 max] 25)) := (Below.refl _ _).alloc (Nat.le_refl _) _
  replace F_t := F_t.below hbA
  replace F_h := F_h.below hbA
  have hBn := bt' hB1 hbA
  clear hB1
  have hB1 := hBn
  clear hBn
  clear hbA
  have C_t : (w1.alloc (.cells #[.slice a' fs.length c', .int .i64 max] 25)).heap[w1.heap.size]? = some (.cells #[.slice a' fs.length c', .int .i64 max] 25 (0, 0)) := heap_alloc_last w1 _
  (try clear T_t0 T_t1)
  obtain ⟨T_t0, T_t1⟩ := row2c C_t
  cases ht : tOk fs max with
  | false =>
    have hSW := fun (w' : World) (h1 : Fs w' a' fs.length c' fs) (h2 : Fs w' ah h.length ch h) => specHeadWrite fs h a' ah _ c' _ ch max w' h1 DS.out.bd (by omega) h2 DH.out.bd (by omega)
    have hIW := fun (w' : World) (h1 : Fs w' a' fs.length c' fs) (h2 : Fs w' ah h.length ch h) => implHeadWrite fs h a' ah _ c' _ ch max w' h1 DS.out.bd (by omega) h2 DH.out.bd (by omega)
    have hTO := fun (w' : World) (h1 : Fs w' a' fs.length c' fs) => specTableOk fs a' _ c' max w' h1 DS.out.bd (by omega)
    rw [hWr_bad (by rw [ht]; rfl)] at hSW hIW
    rw [ht] at hTO
    unfold HwAns at hSW
    unfold HwOwn at hIW
    dsimp only at hSW hIW
    have hL1 := fun (w' : World) (x y : Option Addr) (p q : Nat) (h1 : Fs w' x ([] : List Fd).length p ([] : List Fd)) (h2 : Fs w' y ([] : List Fd).length q ([] : List Fd)) => lkTable_same ([] : List Fd) x y p q 0 w' h1 h2 (by decide)
    have hL2 := fun (w' : World) (x y : Option Addr) (p q : Nat) (h1 : Fs w' x ([] : List Fd).length p ([] : List Fd)) (h2 : Fs w' y ([] : List Fd).length q ([] : List Fd)) => lkTable_same ([] : List Fd) x y p q 0 w' h1 h2 (by decide)
    simp only [List.length_nil] at hIW hL1 hL2
    clear ht
    go_wp2_with (first | (go_at_call 15; refine (hSW _ F_t F_h).mono ?_; clear hSW; rintro e w2 ⟨a2, n2, c2, rfl, F_y, hbx⟩; replace F_t := F_t.below hbx; replace F_h := F_h.below hbx; replace C_t := blkB hbx C_t; have hBn := bt' hB1 hbx; clear hB1; have hB1 := hBn; clear hBn; clear hbx; obtain rfl : n2 = 0 := F_y.len.symm; have hbA : Below w2.heap.size w2 (w2.alloc (.cells #[.slice a2 0 c2, .int .i64 0] 25)) := (Below.refl _ _).alloc (Nat.le_refl _) _; replace F_t := F_t.below hbA; replace F_h := F_h.below hbA; replace F_y := F_y.below hbA; replace C_t := blkB hbA C_t; have hBn := bt' hB1 hbA; clear hB1; have hB1 := hBn; clear hBn; clear hbA; have C_y : (w2.alloc (.cells #[.slice a2 0 c2, .int .i64 0] 25)).heap[w2.heap.size]? = some (.cells #[.slice a2 0 c2, .int .i64 0] 25 (0, 0)) := heap_alloc_last w2 _; (try clear T_t0 T_t1); (try clear T_y0 T_y1); obtain ⟨T_t0, T_t1⟩ := row2c C_t; obtain ⟨T_y0, T_y1⟩ := row2c C_y; skip) | (go_at_call 16; refine (hIW _ F_t F_h).mono ?_; clear hIW; rintro e w3 ⟨v3, rfl, hown, hbx⟩; replace F_t := F_t.below hbx; replace F_h := F_h.below hbx; replace F_y := F_y.below hbx; replace C_t := blkB hbx C_t; replace C_y := blkB hbx C_y; have hBn := bt' hB1 hbx; clear hB1; have hB1 := hBn; clear hBn; clear hbx; obtain ⟨a3, c3, rfl⟩ := own_formT hown; have F_x := own_Fs hown; clear hown; have hbA : Below w3.heap.size w3 (w3.alloc (.cells #[.slice a3 0 c3, .int .i64 0] 25)) := (Below.refl _ _).alloc (Nat.le_refl _) _; replace F_t := F_t.below hbA; replace F_h := F_h.below hbA; replace F_y := F_y.below hbA; replace F_x := F_x.below hbA; replace C_t := blkB hbA C_t; replace C_y := blkB hbA C_y; have hBn := bt' hB1 hbA; clear hB1; have hB1 := hBn; clear hBn; clear hbA; have C_x : (w3.alloc (.cells #[.slice a3 0 c3, .int .i64 0] 25)).heap[w3.heap.size]? = some (.cells #[.slice a3 0 c3, .int .i64 0] 25 (0, 0)) := heap_alloc_last w3 _; (try clear T_t0 T_t1); (try clear T_y0 T_y1); (try clear T_x0 T_x1); obtain ⟨T_t0, T_t1⟩ := row2c C_t; obtain ⟨T_y0, T_y1⟩ := row2c C_y; obtain ⟨T_x0, T_x1⟩ := row2c C_x; skip) | (go_at_call 17; refine (hL1 _ _ _ _ _ F_x F_y).mono ?_; clear hL1; rintro e w4 ⟨rfl, hbx⟩; replace F_t := F_t.below hbx; replace F_h := F_h.below hbx; replace F_y := F_y.below hbx; replace F_x := F_x.below hbx; replace C_t := blkB hbx C_t; replace C_y := blkB hbx C_y; replace C_x := blkB hbx C_x; have hBn := bt' hB1 hbx; clear hB1; have hB1 := hBn; clear hBn; clear hbx; (try clear T_t0 T_t1); (try clear T_y0 T_y1); (try clear T_x0 T_x1); obtain ⟨T_t0, T_t1⟩ := row2c C_t; obtain ⟨T_y0, T_y1⟩ := row2c C_y; obtain ⟨T_x0, T_x1⟩ := row2c C_x; skip) | (go_at_call 18; refine (hTO _ F_t).mono ?_; clear hTO; rintro e w5 ⟨rfl, hbx⟩; replace F_t := F_t.below hbx; replace F_h := F_h.below hbx; replace F_y := F_y.below hbx; replace F_x := F_x.below hbx; replace C_t := blkB hbx C_t; replace C_y := blkB hbx C_y; replace C_x := blkB hbx C_x; have hBn := bt' hB1 hbx; clear hB1; have hB1 := hBn; clear hBn; clear hbx; (try clear T_t0 T_t1); (try clear T_y0 T_y1); (try clear T_x0 T_x1); obtain ⟨T_t0, T_t1⟩ := row2c C_t; obtain ⟨T_y0, T_y1⟩ := row2c C_y; obtain ⟨T_x0, T_x1⟩ := row2c C_x; skip) | (go_at_call 17; refine (hL2 _ _ _ _ _ F_x F_y).mono ?_; clear hL2; rintro e w6 ⟨rfl, hbx⟩; replace F_t := F_t.below hbx; replace F_h := F_h.below hbx; replace F_y := F_y.below hbx; replace F_x := F_x.below hbx; replace C_t := blkB hbx C_t; replace C_y := blkB hbx C_y; replace C_x := blkB hbx C_x; have hBn := bt' hB1 hbx; clear hB1; have hB1 := hBn; clear hBn; clear hbx; (try clear T_t0 T_t1); (try clear T_y0 T_y1); (try clear T_x0 T_x1); obtain ⟨T_t0, T_t1⟩ := row2c C_t; obtain ⟨T_y0, T_y1⟩ := row2c C_y; obtain ⟨T_x0, T_x1⟩ := row2c C_x; skip))
    go_ret
    exact ⟨rfl, hB1⟩
  | true =>
    cases hh : hOk h with
    | false =>
      have hSW := fun (w' : World) (h1 : Fs w' a' fs.length c' fs) (h2 : Fs w' ah h.length ch h) => specHeadWrite fs h a' ah _ c' _ ch max w' h1 DS.out.bd (by omega) h2 DH.out.bd (by omega)
      have hIW := fun (w' : World) (h1 : Fs w' a' fs.length c' fs) (h2 : Fs w' ah h.length ch h) => implHeadWrite fs h a' ah _ c' _ ch max w' h1 DS.out.bd (by omega) h2 DH.out.bd (by omega)
      have hTO := fun (w' : World) (h1 : Fs w' a' fs.length c' fs) => specTableOk fs a' _ c' max w' h1 DS.out.bd (by omega)
      have hHO := fun (w' : World) (h1 : Fs w' ah h.length ch h) => specHeadOk h ah _ ch w' h1 DH.out.bd (by omega)
      rw [hWr_bad (by rw [ht, hh]; rfl)] at hSW hIW
      rw [ht] at hTO
      rw [hh] at hHO
      unfold HwAns at hSW
      unfold HwOwn at hIW
      dsimp only at hSW hIW
      have hL1 := fun (w' : World) (x y : Option Addr) (p q : Nat) (h1 : Fs w' x ([] : List Fd).length p ([] : List Fd)) (h2 : Fs w' y ([] : List Fd).length q ([] : List Fd)) => lkTable_same ([] : List Fd) x y p q 0 w' h1 h2 (by decide)
      have hL2 := fun (w' : World) (x y : Option Addr) (p q : Nat) (h1 : Fs w' x ([] : List Fd).length p ([] : List Fd)) (h2 : Fs w' y ([] : List Fd).length q ([] : List Fd)) => lkTable_same ([] : List Fd) x y p q 0 w' h1 h2 (by decide)
      simp only [List.length_nil] at hIW hL1 hL2
      clear ht hh
      go_wp2_with (first | (go_at_call 15; refine (hSW _ F_t F_h).mono ?_; clear hSW; rintro e w2 ⟨a2, n2, c2, rfl, F_y, hbx⟩; replace F_t := F_t.below hbx; replace F_h := F_h.below hbx; replace C_t := blkB hbx C_t; have hBn := bt' hB1 hbx; clear hB1; have hB1 := hBn; clear hBn; clear hbx; obtain rfl : n2 = 0 := F_y.len.symm; have hbA : Below w2.heap.size w2 (w2.alloc (.cells #[.slice a2 0 c2, .int .i64 0] 25)) := (Below.refl _ _).alloc (Nat.le_refl _) _; replace F_t := F_t.below hbA; replace F_h := F_h.below hbA; replace F_y := F_y.below hbA; replace C_t := blkB hbA C_t; have hBn := bt' hB1 hbA; clear hB1; have hB1 := hBn; clear hBn; clear hbA; have C_y : (w2.alloc (.cells #[.slice a2 0 c2, .int .i64 0] 25)).heap[w2.heap.size]? = some (.cells #[.slice a2 0 c2, .int .i64 0] 25 (0, 0)) := heap_alloc_last w2 _; (try clear T_t0 T_t1); (try clear T_y0 T_y1); obtain ⟨T_t0, T_t1⟩ := row2c C_t; obtain ⟨T_y0, T_y1⟩ := row2c C_y; skip) | (go_at_call 16; refine (hIW _ F_t F_h).mono ?_; clear hIW; rintro e w3 ⟨v3, rfl, hown, hbx⟩; replace F_t := F_t.below hbx; replace F_h := F_h.below hbx; replace F_y := F_y.below hbx; replace C_t := blkB hbx C_t; replace C_y := blkB hbx C_y; have hBn := bt' hB1 hbx; clear hB1; have hB1 := hBn; clear hBn; clear hbx; obtain ⟨a3, c3, rfl⟩ := own_formT hown; have F_x := own_Fs hown; clear hown; have hbA : Below w3.heap.size w3 (w3.alloc (.cells #[.slice a3 0 c3, .int .i64 0] 25)) := (Below.refl _ _).alloc (Nat.le_refl _) _; replace F_t := F_t.below hbA; replace F_h := F_h.below hbA; replace F_y := F_y.below hbA; replace F_x := F_x.below hbA; replace C_t := blkB hbA C_t; replace C_y := blkB hbA C_y; have hBn := bt' hB1 hbA; clear hB1; have hB1 := hBn; clear hBn; clear hbA; have C_x : (w3.alloc (.cells #[.slice a3 0 c3, .int .i64 0] 25)).heap[w3.heap.size]? = some (.cells #[.slice a3 0 c3, .int .i64 0] 25 (0, 0)) := heap_alloc_last w3 _; (try clear T_t0 T_t1); (try clear T_y0 T_y1); (try clear T_x0 T_x1); obtain ⟨T_t0, T_t1⟩ := row2c C_t; obtain ⟨T_y0, T_y1⟩ := row2c C_y; obtain ⟨T_x0, T_x1⟩ := row2c C_x; skip) | (go_at_call 17; refine (hL1 _ _ _ _ _ F_x F_y).mono ?_; clear hL1; rintro e w4 ⟨rfl, hbx⟩; replace F_t := F_t.below hbx; replace F_h := F_h.below hbx; replace F_y := F_y.below hbx; replace F_x := F_x.below hbx; replace C_t := blkB hbx C_t; replace C_y := blkB hbx C_y; replace C_x := blkB hbx C_x; have hBn := bt' hB1 hbx; clear hB1; have hB1 := hBn; clear hBn; clear hbx; (try clear T_t0 T_t1); (try clear T_y0 T_y1); (try clear T_x0 T_x1); obtain ⟨T_t0, T_t1⟩ := row2c C_t; obtain ⟨T_y0, T_y1⟩ := row2c C_y; obtain ⟨T_x0, T_x1⟩ := row2c C_x; skip) | (go_at_call 18; refine (hTO _ F_t).mono ?_; clear hTO; rintro e w5 ⟨rfl, hbx⟩; replace F_t := F_t.below hbx; replace F_h := F_h.below hbx; replace F_y := F_y.below hbx; replace F_x := F_x.below hbx; replace C_t := blkB hbx C_t; replace C_y := blkB hbx C_y; replace C_x := blkB hbx C_x; have hBn := bt' hB1 hbx; clear hB1; have hB1 := hBn; clear hBn; clear hbx; (try clear T_t0 T_t1); (try clear T_y0 T_y1); (try clear T_x0 T_x1); obtain ⟨T_t0, T_t1⟩ := row2c C_t; obtain ⟨T_y0, T_y1⟩ := row2c C_y; obtain ⟨T_x0, T_x1⟩ := row2c C_x; skip) | (go_at_call 19; refine (hHO _ F_h).mono ?_; clear hHO; rintro e w6 ⟨rfl, hbx⟩; replace F_t := F_t.below hbx; replace F_h := F_h.below hbx; replace F_y := F_y.below hbx; replace F_x := F_x.below hbx; replace C_t := blkB hbx C_t; replace C_y := blkB hbx C_y; replace C_x := blkB hbx C_x; have hBn := bt' hB1 hbx; clear hB1; have hB1 := hBn; clear hBn; clear hbx; (try clear T_t0 T_t1); (try clear T_y0 T_y1); (try clear T_x0 T_x1); obtain ⟨T_t0, T_t1⟩ := row2c C_t; obtain ⟨T_y0, T_y1⟩ := row2c C_y; obtain ⟨T_x0, T_x1⟩ := row2c C_x; skip) | (go_at_call 17; refine (hL2 _ _ _ _ _ F_x F_y).mono ?_; clear hL2; rintro e w7 ⟨rfl, hbx⟩; replace F_t := F_t.below hbx; replace F_h := F_h.below hbx; replace F_y := F_y.below hbx; replace F_x := F_x.below hbx; replace C_t := blkB hbx C_t; replace C_y := blkB hbx C_y; replace C_x := blkB hbx C_x; have hBn := bt' hB1 hbx; clear hB1; have hB1 := hBn; clear hBn; clear hbx; (try clear T_t0 T_t1); (try clear T_y0 T_y1); (try clear T_x0 T_x1); obtain ⟨T_t0, T_t1⟩ := row2c C_t; obtain ⟨T_y0, T_y1⟩ := row2c C_y; obtain ⟨T_x0, T_x1⟩ := row2c C_x; skip))
      go_ret
      exact ⟨rfl, hB1⟩
    | true =>
      have hh6 := (hOk_parts hh).2
      have hnz : ¬ (h.length : Int) + 1 = 0 := by omega
      obtain ⟨m, hm⟩ : ∃ m : Int, (len1 : Int).tmod (h.length + 1) = m := ⟨_, rfl⟩
      have hm' : (len1 : Int) % (h.length + 1) = m := by rw [← hm, Int.tmod_eq_emod_of_nonneg (by omega)]
      have hm0 : 0 ≤ m := by rw [← hm']; exact Int.emod_nonneg _ hnz
      have hm1 : m ≤ h.length := by have := Int.emod_lt_of_pos (len1 : Int) (show 0 < (h.length : Int) + 1 by omega); omega
      obtain ⟨k, rfl⟩ : ∃ k : Nat, m = (k : Int) := ⟨m.toNat, by omega⟩
      have F_k := F_h.take k (by omega)
      have hsl1 := F_h.upto k (k : Int) rfl (by omega)
      obtain ⟨a2, cc2, hsl2, hfd⟩ := F_h.fromO k (k : Int) rfl (by omega)
      have hSW := fun (w' : World) (h1 : Fs w' a' fs.length c' fs) (h2 : Fs w' ah h.length ch h) => specHeadWrite fs h a' ah _ c' _ ch max w' h1 DS.out.bd (by omega) h2 DH.out.bd (by omega)
      have hIW := fun (w' : World) (h1 : Fs w' a' fs.length c' fs) (h2 : Fs w' ah h.length ch h) => implHeadWrite fs h a' ah _ c' _ ch max w' h1 DS.out.bd (by omega) h2 DH.out.bd (by omega)
      have hTO := fun (w' : World) (h1 : Fs w' a' fs.length c' fs) => specTableOk fs a' _ c' max w' h1 DS.out.bd (by omega)
      have hHO := fun (w' : World) (h1 : Fs w' ah h.length ch h) => specHeadOk h ah _ ch w' h1 DH.out.bd (by omega)
      obtain ⟨k1, k2, k3⟩ := wrH_len ht (hOk_take hh k)
      have hIK := fun (w' : World) (h1 : Fs w' a' fs.length c' fs) (h2 : Fs w' ah k ch (h.take k)) => implHeadWrite fs (h.take k) a' ah _ c' _ ch max w' h1 DS.out.bd (by omega) h2 (hOk_bd (hOk_take hh k)) (by omega)
      rw [hWr_ok ht (hOk_take hh k)] at hIK
      rw [hWr_ok ht hh, wrH_cut fs max h k] at hSW hIW
      rw [ht] at hTO
      rw [hh] at hHO
      obtain ⟨xs, hxs⟩ : ∃ xs, (wrH fs max (h.take k)).1 = xs := ⟨_, rfl⟩
      obtain ⟨bs, hbs⟩ : ∃ bs, (wrH fs max (h.take k)).2 = bs := ⟨_, rfl⟩
      rw [hxs, hbs] at hSW hIW hIK
      rw [hxs] at k1 k2
      rw [hbs] at k3
      obtain ⟨j1, j2, j3⟩ := wrH_len k1 (hOk_drop hh k)
      have hID := fun (w' : World) (x : Option Addr) (p : Nat) (h1 : Fs w' x xs.length p xs) (h2 : Fs w' a2 (h.length - k) cc2 (h.drop k)) => implHeadWrite xs (h.drop k) x a2 _ p _ cc2 max w' h1 (tOk_bd k1) (by omega) h2 (hOk_bd (hOk_drop hh k)) (by omega)
      rw [hWr_ok k1 (hOk_drop hh k)] at hID
      obtain ⟨ys, hys⟩ : ∃ ys, (wrH xs max (h.drop k)).1 = ys := ⟨_, rfl⟩
      obtain ⟨ds, hds⟩ : ∃ ds, (wrH xs max (h.drop k)).2 = ds := ⟨_, rfl⟩
      rw [hys, hds] at hSW hIW hID
      rw [hys] at j1 j2
      rw [hds] at j3
      unfold HwAns at hSW
      unfold HwOwn at hIW hIK hID
      dsimp only at hSW hIW hIK hID
      have g1 : ¬ 9223372036854775807 < bs.size + ds.size := by omega
      have g2 : bs.size + ds.size ≤ 9223372036854775807 := by omega
      have hL1 := fun (w' : World) (x y : Option Addr) (p q : Nat) (h1 : Fs w' x ys.length p ys) (h2 : Fs w' y ys.length q ys) => lkTable_same ys x y p q max w' h1 h2 (by omega)
      have hL2 := fun (w' : World) (x y : Option Addr) (p q : Nat) (h1 : Fs w' x ys.length p ys) (h2 : Fs w' y ys.length q ys) => lkTable_same ys x y p q max w' h1 h2 (by omega)
      clear ht hh k1 j1 hxs hbs hys hds hm0 hm1
      go_upto_region 9 with (first | (go_at_call 15; refine (hSW _ F_t F_h).mono ?_; clear hSW; rintro e w2 ⟨a2, n2, c2, rfl, F_y, hbx⟩; replace F_t := F_t.below hbx; replace F_h := F_h.below hbx; replace F_k := F_k.below hbx; replace C_t := blkB hbx C_t; have hBn := bt' hB1 hbx; clear hB1; have hB1 := hBn; clear hBn; clear hbx; obtain rfl := F_y.len; have hbA : Below w2.heap.size w2 (w2.alloc (.cells #[.slice a2 ys.length c2, .int .i64 max] 25)) := (Below.refl _ _).alloc (Nat.le_refl _) _; replace F_t := F_t.below hbA; replace F_h := F_h.below hbA; replace F_k := F_k.below hbA; replace F_y := F_y.below hbA; replace C_t := blkB hbA C_t; have hBn := bt' hB1 hbA; clear hB1; have hB1 := hBn; clear hBn; clear hbA; have C_y : (w2.alloc (.cells #[.slice a2 ys.length c2, .int .i64 max] 25)).heap[w2.heap.size]? = some (.cells #[.slice a2 ys.length c2, .int .i64 max] 25 (0, 0)) := heap_alloc_last w2 _; (try clear T_t0 T_t1); (try clear T_y0 T_y1); obtain ⟨T_t0, T_t1⟩ := row2c C_t; obtain ⟨T_y0, T_y1⟩ := row2c C_y; skip) | (go_at_call 16; refine (hIW _ F_t F_h).mono ?_; clear hIW; rintro e w3 ⟨v3, rfl, hown, hbx⟩; replace F_t := F_t.below hbx; replace F_h := F_h.below hbx; replace F_k := F_k.below hbx; replace F_y := F_y.below hbx; replace C_t := blkB hbx C_t; replace C_y := blkB hbx C_y; have hBn := bt' hB1 hbx; clear hB1; have hB1 := hBn; clear hBn; clear hbx; obtain ⟨a3, c3, rfl⟩ := own_formT hown; have F_x := own_Fs hown; clear hown; have hbA : Below w3.heap.size w3 (w3.alloc (.cells #[.slice a3 ys.length c3, .int .i64 max] 25)) := (Below.refl _ _).alloc (Nat.le_refl _) _; replace F_t := F_t.below hbA; replace F_h := F_h.below hbA; replace F_k := F_k.below hbA; replace F_y := F_y.below hbA; replace F_x := F_x.below hbA; replace C_t := blkB hbA C_t; replace C_y := blkB hbA C_y; have hBn := bt' hB1 hbA; clear hB1; have hB1 := hBn; clear hBn; clear hbA; have C_x : (w3.alloc (.cells #[.slice a3 ys.length c3, .int .i64 max] 25)).heap[w3.heap.size]? = some (.cells #[.slice a3 ys.length c3, .int .i64 max] 25 (0, 0)) := heap_alloc_last w3 _; (try clear T_t0 T_t1); (try clear T_y0 T_y1); (try clear T_x0 T_x1); obtain ⟨T_t0, T_t1⟩ := row2c C_t; obtain ⟨T_y0, T_y1⟩ := row2c C_y; obtain ⟨T_x0, T_x1⟩ := row2c C_x; skip) | (go_at_call 17; refine (hL1 _ _ _ _ _ F_x F_y).mono ?_; clear hL1; rintro e w4 ⟨rfl, hbx⟩; replace F_t := F_t.below hbx; replace F_h := F_h.below hbx; replace F_k := F_k.below hbx; replace F_y := F_y.below hbx; replace F_x := F_x.below hbx; replace C_t := blkB hbx C_t; replace C_y := blkB hbx C_y; replace C_x := blkB hbx C_x; have hBn := bt' hB1 hbx; clear hB1; have hB1 := hBn; clear hBn; clear hbx; (try clear T_t0 T_t1); (try clear T_y0 T_y1); (try clear T_x0 T_x1); obtain ⟨T_t0, T_t1⟩ := row2c C_t; obtain ⟨T_y0, T_y1⟩ := row2c C_y; obtain ⟨T_x0, T_x1⟩ := row2c C_x; skip) | (go_at_call 18; refine (hTO _ F_t).mono ?_; clear hTO; rintro e w5 ⟨rfl, hbx⟩; replace F_t := F_t.below hbx; replace F_h := F_h.below hbx; replace F_k := F_k.below hbx; replace F_y := F_y.below hbx; replace F_x := F_x.below hbx; replace C_t := blkB hbx C_t; replace C_y := blkB hbx C_y; replace C_x := blkB hbx C_x; have hBn := bt' hB1 hbx; clear hB1; have hB1 := hBn; clear hBn; clear hbx; (try clear T_t0 T_t1); (try clear T_y0 T_y1); (try clear T_x0 T_x1); obtain ⟨T_t0, T_t1⟩ := row2c C_t; obtain ⟨T_y0, T_y1⟩ := row2c C_y; obtain ⟨T_x0, T_x1⟩ := row2c C_x; skip) | (go_at_call 19; refine (hHO _ F_h).mono ?_; clear hHO; rintro e w6 ⟨rfl, hbx⟩; replace F_t := F_t.below hbx; replace F_h := F_h.below hbx; replace F_k := F_k.below hbx; replace F_y := F_y.below hbx; replace F_x := F_x.below hbx; replace C_t := blkB hbx C_t; replace C_y := blkB hbx C_y; replace C_x := blkB hbx C_x; have hBn := bt' hB1 hbx; clear hB1; have hB1 := hBn; clear hBn; clear hbx; (try clear T_t0 T_t1); (try clear T_y0 T_y1); (try clear T_x0 T_x1); obtain ⟨T_t0, T_t1⟩ := row2c C_t; obtain ⟨T_y0, T_y1⟩ := row2c C_y; obtain ⟨T_x0, T_x1⟩ := row2c C_x; skip))
      have hmx : Try.prog.follows .mixedOrders = true := by kernel_rfl
      have hkeepV : ∀ w1 w2 : World, Below w1.heap.size w1 w2 → (w1.cell? ⟨w1.heap.size, 0, none⟩ = some (.slice a' fs.length c') ∧ w1.cell? ⟨w1.heap.size, 1, none⟩ = some (.int .i64 max) ∧ Below w6.heap.size w6 w1) → (w2.cell? ⟨w1.heap.size, 0, none⟩ = some (.slice a' fs.length c') ∧ w2.cell? ⟨w1.heap.size, 1, none⟩ = some (.int .i64 max) ∧ Below w6.heap.size w6 w2) := by
        rintro w1 w2 hb ⟨h0, h1, hB⟩
        exact ⟨keepc hb h0, keepc hb h1, bt' hB hb⟩
      have hBelV : ∀ w' : World, (w'.cell? ⟨w1.heap.size, 0, none⟩ = some (.slice a' fs.length c') ∧ w'.cell? ⟨w1.heap.size, 1, none⟩ = some (.int .i64 max) ∧ Below w6.heap.size w6 w') → Below w6.heap.size w6 w' := fun w' h => h.2.2
      have hV0 : w6.cell? ⟨w1.heap.size, 0, none⟩ = some (.slice a' fs.length c') ∧ w6.cell? ⟨w1.heap.size, 1, none⟩ = some (.int .i64 max) ∧ Below w6.heap.size w6 w6 := ⟨T_t0, T_t1, Below.refl _ _⟩
      have HFt : Hid _ := F_t
      have HFk : Hid _ := F_k
      have HFh : Hid _ := F_h
      have HFx : Hid _ := F_x
      have HCx : Hid _ := C_x
      have HB1 : Hid _ := hB1
      clear T_t0 T_t1 T_x0 T_x1 T_y0 T_y1 F_t F_k F_h F_x F_y C_t C_x C_y hB1
      have hOfV : ∀ w', Below w6.heap.size w6 w' → (w'.cell? ⟨w1.heap.size, 0, none⟩ = some (.slice a' fs.length c') ∧ w'.cell? ⟨w1.heap.size, 1, none⟩ = some (.int .i64 max) ∧ Below w6.heap.size w6 w') := fun w' hb => ⟨keepc hb hV0.1, keepc hb hV0.2.1, hb⟩
      go_cut [12, 13] from 74 to 81 (fun s s2 wx => ∃ L aL cL, s = .pointer (some ⟨L, 0, none⟩) ∧ s2 = .string bs ∧ wx.heap[L]? = some (.cells #[.slice aL xs.length cL, .int .i64 max] 25 (0, 0)) ∧ Fs wx aL xs.length cL xs ∧ Below w6.heap.size w6 wx)
      case first =>
        go_region_held3 (fun w' => w'.cell? ⟨w1.heap.size, 0, none⟩ = some (.slice a' fs.length c') ∧ w'.cell? ⟨w1.heap.size, 1, none⟩ = some (.int .i64 max) ∧ Below w6.heap.size w6 w') ((first | assumption | exact hOfV _ hE3 | exact hkeepV _ _ ((Below.refl _ _).drew) hV0 | exact hOfV _ ((Below.refl w6.heap.size w6).drew) | exact hOfV _ (((Below.refl w6.heap.size w6).drew).alloc (Nat.le_refl _) _) | exact hkeepV _ _ ((Below.refl _ _).alloc (Nat.le_refl _) _) (by assumption) | exact hkeepV _ _ hb3 (by assumption) | exact hOfV _ ((hE3.setCell (p := ⟨_, 0, none⟩) hLb _).setCell (p := ⟨_, 1, none⟩) hLb _) | exact hOfV _ (hE3.alloc hE3.size _) | assumption)) ((first | (go_at_call 16; (first | refine (hIK _ (HFt.out.below (hBelV _ (by assumption))) (HFk.out.below (hBelV _ (by assumption)))).mono ?_); rintro e w3 ⟨v3, rfl, hown3, hb3⟩; obtain ⟨aL, cL, rfl⟩ := own_formT hown3; have hE3 := bt' (hBelV _ (by assumption)) hb3; (first | (have hL3 : w3.heap[w6.heap.size]? = some (.cells #[.slice none 0 0, .int .i64 0] 25 (0, 0)) := blkB hb3 (heap_alloc_last w6.drew (.cells #[.slice none 0 0, .int .i64 0] 25)); have hLb : w6.heap.size ≤ w6.heap.size := Nat.le_refl _; obtain ⟨l0, l1⟩ := row2c hL3; have q0 := frz 0 hL3; have q1 := frz 1 hL3) | skip))))
        all_goals
          first
            | (have hL4 : w3.heap[w6.heap.size]? = some (.cells #[.slice none 0 0, .int .i64 0] 25 (0, 0)) := hL3
               have hne := not_rowT hL4 (by decide) hown3
               have hL6 := set2_heap (.slice aL xs.length cL) (.int .i64 max) hL4
               have hO6 := own_Fs (own_setT (own_setT hown3 ⟨w6.heap.size, 0, none⟩ (.slice aL xs.length cL) hne) ⟨w6.heap.size, 1, none⟩ (.int .i64 max) hne)
               have hE6 := (hE3.setCell (p := ⟨w6.heap.size, 0, none⟩) hLb (.slice aL xs.length cL)).setCell (p := ⟨w6.heap.size, 1, none⟩) hLb (.int .i64 max)
               go_wp2_with fail
               go_meet
               exact ⟨_, aL, cL, rfl, rfl, hL6, hO6, hE6⟩)
            | (have hL6 := heap_alloc_last w3 (.cells #[.slice aL xs.length cL, .int .i64 max] 25)
               have hO6 := own_Fs (hown3.alloc (.cells #[.slice aL xs.length cL, .int .i64 max] 25))
               have hE6 := hE3.alloc hE3.size (.cells #[.slice aL xs.length cL, .int .i64 max] 25)
               go_wp2_with fail
               go_meet
               exact ⟨_, aL, cL, rfl, rfl, hL6, hO6, hE6⟩)
      case rest =>
        obtain ⟨L, aP, cP, rfl, rfl, hP, F_p, hcP⟩ := hcut
        go_upto_region 10 with fail
        refine wabs (fun U => U.heap[L]? = some (.cells #[.slice aP xs.length cP, .int .i64 max] 25 (0, 0)) ∧ Fs U aP xs.length cP xs ∧ Below w6.heap.size w6 U) ⟨hP, F_p, hcP⟩ ?_
        clear hP F_p hcP hkeepV hBelV hOfV hV0
        rintro U ⟨hP, F_p, hcU⟩
        obtain ⟨p0, p1⟩ := row2c hP
        have hkeepU : ∀ w1 w2 : World, Below w1.heap.size w1 w2 → (w1.cell? ⟨L, 0, none⟩ = some (.slice aP xs.length cP) ∧ w1.cell? ⟨L, 1, none⟩ = some (.int .i64 max) ∧ Below U.heap.size U w1) → (w2.cell? ⟨L, 0, none⟩ = some (.slice aP xs.length cP) ∧ w2.cell? ⟨L, 1, none⟩ = some (.int .i64 max) ∧ Below U.heap.size U w2) := by
          rintro w1 w2 hb ⟨h0, h1, hB⟩
          exact ⟨keepc hb h0, keepc hb h1, bt' hB hb⟩
        have hBelU : ∀ w' : World, (w'.cell? ⟨L, 0, none⟩ = some (.slice aP xs.length cP) ∧ w'.cell? ⟨L, 1, none⟩ = some (.int .i64 max) ∧ Below U.heap.size U w') → Below U.heap.size U w' := fun w' h => h.2.2
        have hU0 : U.cell? ⟨L, 0, none⟩ = some (.slice aP xs.length cP) ∧ U.cell? ⟨L, 1, none⟩ = some (.int .i64 max) ∧ Below U.heap.size U U := ⟨p0, p1, Below.refl _ _⟩
        have HFp : Hid _ := F_p
        have HFd : Hid _ := hfd _ (HFh.out.below hcU)
        clear p0 p1 F_p hP hsl1
        have hOfU : ∀ w', Below U.heap.size U w' → (w'.cell? ⟨L, 0, none⟩ = some (.slice aP xs.length cP) ∧ w'.cell? ⟨L, 1, none⟩ = some (.int .i64 max) ∧ Below U.heap.size U w') := fun w' hb => ⟨keepc hb hU0.1, keepc hb hU0.2.1, hb⟩
        go_cut [14, 15] from 82 to 89 (fun s s2 wx => ∃ L aL cL, s = .pointer (some ⟨L, 0, none⟩) ∧ s2 = .string ds ∧ wx.heap[L]? = some (.cells #[.slice aL ys.length cL, .int .i64 max] 25 (0, 0)) ∧ Fs wx aL ys.length cL ys ∧ Below U.heap.size U wx)
        case first =>
          go_region_held3 (fun w' => w'.cell? ⟨L, 0, none⟩ = some (.slice aP xs.length cP) ∧ w'.cell? ⟨L, 1, none⟩ = some (.int .i64 max) ∧ Below U.heap.size U w') ((first | assumption | exact hOfU _ hE3 | exact hkeepU _ _ ((Below.refl _ _).drew) hU0 | exact hOfU _ ((Below.refl U.heap.size U).drew) | exact hOfU _ (((Below.refl U.heap.size U).drew).alloc (Nat.le_refl _) _) | exact hkeepU _ _ ((Below.refl _ _).alloc (Nat.le_refl _) _) (by assumption) | exact hkeepU _ _ hb3 (by assumption) | exact hOfU _ ((hE3.setCell (p := ⟨_, 0, none⟩) hLb _).setCell (p := ⟨_, 1, none⟩) hLb _) | exact hOfU _ (hE3.alloc hE3.size _) | assumption)) ((first | (go_at_call 16; (first | refine (hID _ _ _ (HFp.out.below (hBelU _ (by assumption))) (HFd.out.below (hBelU _ (by assumption)))).mono ?_); rintro e w3 ⟨v3, rfl, hown3, hb3⟩; obtain ⟨aL, cL, rfl⟩ := own_formT hown3; have hE3 := bt' (hBelU _ (by assumption)) hb3; (first | (have hL3 : w3.heap[U.heap.size]? = some (.cells #[.slice none 0 0, .int .i64 0] 25 (0, 0)) := blkB hb3 (heap_alloc_last U.drew (.cells #[.slice none 0 0, .int .i64 0] 25)); have hLb : U.heap.size ≤ U.heap.size := Nat.le_refl _; obtain ⟨l0, l1⟩ := row2c hL3; have q0 := frz 0 hL3; have q1 := frz 1 hL3) | skip))))
          all_goals
            first
              | (have hL4 : w3.heap[U.heap.size]? = some (.cells #[.slice none 0 0, .int .i64 0] 25 (0, 0)) := hL3
                 have hne := not_rowT hL4 (by decide) hown3
                 have hL6 := set2_heap (.slice aL ys.length cL) (.int .i64 max) hL4
                 have hO6 := own_Fs (own_setT (own_setT hown3 ⟨U.heap.size, 0, none⟩ (.slice aL ys.length cL) hne) ⟨U.heap.size, 1, none⟩ (.int .i64 max) hne)
                 have hE6 := (hE3.setCell (p := ⟨U.heap.size, 0, none⟩) hLb (.slice aL ys.length cL)).setCell (p := ⟨U.heap.size, 1, none⟩) hLb (.int .i64 max)
                 go_wp2_with fail
                 go_meet
                 exact ⟨_, aL, cL, rfl, rfl, hL6, hO6, hE6⟩)
              | (have hL6 := heap_alloc_last w3 (.cells #[.slice aL ys.length cL, .int .i64 max] 25)
                 have hO6 := own_Fs (hown3.alloc (.cells #[.slice aL ys.length cL, .int .i64 max] 25))
                 have hE6 := hE3.alloc hE3.size (.cells #[.slice aL ys.length cL, .int .i64 max] 25)
                 go_wp2_with fail
                 go_meet
                 exact ⟨_, aL, cL, rfl, rfl, hL6, hO6, hE6⟩)
        case rest =>
          obtain ⟨L2, aQ, cQ, rfl, rfl, hQ, F_q, hcQ⟩ := hcut
          have F_x := (HFx.out.below hcU).below hcQ
          have C_x := blkB hcQ (blkB hcU HCx.out)
          have hB9 := bt' (bt' HB1.out hcU) hcQ
          obtain ⟨x0, x1⟩ := row2c C_x
          obtain ⟨q0, q1⟩ := row2c hQ
          clear hkeepU hBelU hOfU hU0
          go_wp2_with (go_at_call 17; refine (hL2 _ _ _ _ _ F_q F_x).mono ?_; clear hL2; rintro e w9 ⟨rfl, hb9⟩)
          go_ret
          exact ⟨rfl, bt' hB9 hb9⟩
end Go.Proofs.Ytbhoafiolalgaaa
