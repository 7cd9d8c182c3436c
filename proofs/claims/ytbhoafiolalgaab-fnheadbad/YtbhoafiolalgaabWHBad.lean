import Derived.Test.YtbhoafiolalgaabHL0
import Derived.Test.YtbhoafiolalgaabHI7
import Derived.Test.YtbhoafiolalgaabHI4
import Derived.Test.YtbhoafiolalgaabHD4
import Derived.Test.YtbhoafiolalgaabHR5
import Derived.Test.YtbhoafiolalgaabHM3
import Derived.Test.YtbhoafiolalgaabHC0
import Derived.Deep.RegionHeld3
import Derived.Maps.RangeWalk
namespace Go.Proofs.Ytbhoafiolalgaab
open Go.RowKit
set_option linter.unusedVariables false

set_option maxRecDepth 100000 in
set_option maxHeartbeats 20000000 in
theorem fnHeadBad_walk (a0 : Option Addr) (len0 cap0 : Nat) (z0 : List Int) (a1 : Option Addr) (len1 cap1 : Nat) (z1 : List Int) (w : World) (w0 : Row w a0 len0 cap0 z0) (w1 : Row w a1 len1 cap1 z1) :
    Calls Try.prog 3 #[.slice a0 len0 cap0, .slice a1 len1 cap1] w fun e w' => e = .returned (.bool true) ∧ Below w.heap.size w w' := by
  by_cases c0 : (1048576 : Int) < len0
  · clear w0 w1
    go_enter Try.func3, Try.ntmps3
    go_wp2
    go_ret
    exact ⟨rfl, Below.refl _ _⟩
  by_cases c1 : (1048576 : Int) < len1
  · clear w0 w1
    go_enter Try.func3, Try.ntmps3
    go_wp2
    go_ret
    exact ⟨rfl, Below.refl _ _⟩
  have R0 : Hid (Row w a0 len0 cap0 z0) := w0
  have R1 : Hid (Row w a1 len1 cap1 z1) := w1
  clear w0 w1
  go_enter Try.func3, Try.ntmps3
  go_wp2_with fail
  refine (drawHeadRead _ _ _ _ _ R0.out).mono ?_
  rintro e w1 ⟨fs, max, a', c', bb, rfl, hbz, ⟨lF, sF, F_t⟩, hB1⟩
  have DS : Hid (fsSm fs) := sF
  clear sF R0 R1
  have hbA : Below w1.heap.size w1 (w1.alloc (.cells #[.slice a' fs.length c', .int .i64 max] 25)) := (Below.refl _ _).alloc (Nat.le_refl _) _
  replace F_t := F_t.below hbA
  have hBn := bt' hB1 hbA
  clear hB1
  have hB1 := hBn
  clear hBn
  clear hbA
  have C_t : (w1.alloc (.cells #[.slice a' fs.length c', .int .i64 max] 25)).heap[w1.heap.size]? = some (.cells #[.slice a' fs.length c', .int .i64 max] 25 (0, 0)) := heap_alloc_last w1 _
  (try clear T_t0 T_t1)
  obtain ⟨T_t0, T_t1⟩ := row2c C_t
  have hSR := fun (w' : World) (h1 : Fs w' a' fs.length c' fs) => specHeadRead fs a' _ c' max bb w' h1 DS.out.bd (by omega) (by unfold maxLen; omega)
  have hIR := fun (w' : World) (h1 : Fs w' a' fs.length c' fs) => implHeadRead fs a' _ c' max bb w' h1 DS.out.bd (by omega) (by unfold maxLen; omega)
  have hTO := fun (w' : World) (h1 : Fs w' a' fs.length c' fs) => specTableOk fs a' _ c' max w' h1 DS.out.bd (by omega)
  cases ht : tOk fs max with
  | false =>
    rw [ht] at hTO
    rw [hRd_bad (by rw [ht]; rfl)] at hSR hIR
    unfold HrAns at hSR
    unfold HrOwn at hIR
    dsimp only at hSR hIR
    have hL1 := fun (w' : World) (x y : Option Addr) (p q : Nat) (h1 : Fs w' x ([] : List Fd).length p ([] : List Fd)) (h2 : Fs w' y ([] : List Fd).length q ([] : List Fd)) => lkFields_same ([] : List Fd) x y p q w' h1 h2 (by decide)
    have hL2 := fun (w' : World) (x y : Option Addr) (p q : Nat) (h1 : Fs w' x ([] : List Fd).length p ([] : List Fd)) (h2 : Fs w' y ([] : List Fd).length q ([] : List Fd)) => lkTable_same ([] : List Fd) x y p q 0 w' h1 h2 (by decide)
    have hL3 := fun (w' : World) (x y : Option Addr) (p q : Nat) (h1 : Fs w' x ([] : List Fd).length p ([] : List Fd)) (h2 : Fs w' y ([] : List Fd).length q ([] : List Fd)) => lkFields_same ([] : List Fd) x y p q w' h1 h2 (by decide)
    have hL4 := fun (w' : World) (x y : Option Addr) (p q : Nat) (h1 : Fs w' x ([] : List Fd).length p ([] : List Fd)) (h2 : Fs w' y ([] : List Fd).length q ([] : List Fd)) => lkTable_same ([] : List Fd) x y p q 0 w' h1 h2 (by decide)
    simp only [List.length_nil] at hIR hL1 hL2 hL3 hL4
    clear ht
    go_wp2_with (first | (go_at_call 9; refine (hSR _ F_t).mono ?_; clear hSR; rintro e w2 ⟨a2, n2, c2, b2, m2, d2, rfl, F_y, F_u, hbx⟩; replace F_t := F_t.below hbx; replace C_t := blkB hbx C_t; have hBn := bt' hB1 hbx; clear hB1; have hB1 := hBn; clear hBn; clear hbx; obtain rfl : n2 = 0 := F_y.len.symm; obtain rfl : m2 = 0 := F_u.len.symm; have hbA : Below w2.heap.size w2 (w2.alloc (.cells #[.slice a2 0 c2, .int .i64 0] 25)) := (Below.refl _ _).alloc (Nat.le_refl _) _; replace F_t := F_t.below hbA; replace F_y := F_y.below hbA; replace F_u := F_u.below hbA; replace C_t := blkB hbA C_t; have hBn := bt' hB1 hbA; clear hB1; have hB1 := hBn; clear hBn; clear hbA; have C_y : (w2.alloc (.cells #[.slice a2 0 c2, .int .i64 0] 25)).heap[w2.heap.size]? = some (.cells #[.slice a2 0 c2, .int .i64 0] 25 (0, 0)) := heap_alloc_last w2 _; (try clear T_t0 T_t1); (try clear T_y0 T_y1); obtain ⟨T_t0, T_t1⟩ := row2c C_t; obtain ⟨T_y0, T_y1⟩ := row2c C_y; skip) | (go_at_call 10; refine (hIR _ F_t).mono ?_; clear hIR; rintro e w3 ⟨v3, u3, rfl, hown, hownu, _, hbx⟩; replace F_t := F_t.below hbx; replace F_y := F_y.below hbx; replace F_u := F_u.below hbx; replace C_t := blkB hbx C_t; replace C_y := blkB hbx C_y; have hBn := bt' hB1 hbx; clear hB1; have hB1 := hBn; clear hBn; clear hbx; obtain ⟨a3, c3, rfl⟩ := own_formT hown; have F_x := own_Fs hown; obtain ⟨b3, d3, rfl⟩ := own_formT hownu; have F_h := own_Fs hownu; clear hown hownu; have hbA : Below w3.heap.size w3 (w3.alloc (.cells #[.slice a3 0 c3, .int .i64 0] 25)) := (Below.refl _ _).alloc (Nat.le_refl _) _; replace F_t := F_t.below hbA; replace F_y := F_y.below hbA; replace F_u := F_u.below hbA; replace F_x := F_x.below hbA; replace F_h := F_h.below hbA; replace C_t := blkB hbA C_t; replace C_y := blkB hbA C_y; have hBn := bt' hB1 hbA; clear hB1; have hB1 := hBn; clear hBn; clear hbA; have C_x : (w3.alloc (.cells #[.slice a3 0 c3, .int .i64 0] 25)).heap[w3.heap.size]? = some (.cells #[.slice a3 0 c3, .int .i64 0] 25 (0, 0)) := heap_alloc_last w3 _; (try clear T_t0 T_t1); (try clear T_y0 T_y1); (try clear T_x0 T_x1); obtain ⟨T_t0, T_t1⟩ := row2c C_t; obtain ⟨T_y0, T_y1⟩ := row2c C_y; obtain ⟨T_x0, T_x1⟩ := row2c C_x; skip) | (go_at_call 11; refine (hL1 _ _ _ _ _ F_h F_u).mono ?_; clear hL1; rintro e w4 ⟨rfl, hbx⟩; replace F_t := F_t.below hbx; replace F_y := F_y.below hbx; replace F_u := F_u.below hbx; replace F_x := F_x.below hbx; replace F_h := F_h.below hbx; replace C_t := blkB hbx C_t; replace C_y := blkB hbx C_y; replace C_x := blkB hbx C_x; have hBn := bt' hB1 hbx; clear hB1; have hB1 := hBn; clear hBn; clear hbx; (try clear T_t0 T_t1); (try clear T_y0 T_y1); (try clear T_x0 T_x1); obtain ⟨T_t0, T_t1⟩ := row2c C_t; obtain ⟨T_y0, T_y1⟩ := row2c C_y; obtain ⟨T_x0, T_x1⟩ := row2c C_x; skip) | (go_at_call 12; refine (hL2 _ _ _ _ _ F_x F_y).mono ?_; clear hL2; rintro e w5 ⟨rfl, hbx⟩; replace F_t := F_t.below hbx; replace F_y := F_y.below hbx; replace F_u := F_u.below hbx; replace F_x := F_x.below hbx; replace F_h := F_h.below hbx; replace C_t := blkB hbx C_t; replace C_y := blkB hbx C_y; replace C_x := blkB hbx C_x; have hBn := bt' hB1 hbx; clear hB1; have hB1 := hBn; clear hBn; clear hbx; (try clear T_t0 T_t1); (try clear T_y0 T_y1); (try clear T_x0 T_x1); obtain ⟨T_t0, T_t1⟩ := row2c C_t; obtain ⟨T_y0, T_y1⟩ := row2c C_y; obtain ⟨T_x0, T_x1⟩ := row2c C_x; skip) | (go_at_call 13; refine (hTO _ F_t).mono ?_; clear hTO; rintro e w6 ⟨rfl, hbx⟩; replace F_t := F_t.below hbx; replace F_y := F_y.below hbx; replace F_u := F_u.below hbx; replace F_x := F_x.below hbx; replace F_h := F_h.below hbx; replace C_t := blkB hbx C_t; replace C_y := blkB hbx C_y; replace C_x := blkB hbx C_x; have hBn := bt' hB1 hbx; clear hB1; have hB1 := hBn; clear hBn; clear hbx; (try clear T_t0 T_t1); (try clear T_y0 T_y1); (try clear T_x0 T_x1); obtain ⟨T_t0, T_t1⟩ := row2c C_t; obtain ⟨T_y0, T_y1⟩ := row2c C_y; obtain ⟨T_x0, T_x1⟩ := row2c C_x; skip) | (go_at_call 11; refine (hL3 _ _ _ _ _ F_h F_u).mono ?_; clear hL3; rintro e w7 ⟨rfl, hbx⟩; replace F_t := F_t.below hbx; replace F_y := F_y.below hbx; replace F_u := F_u.below hbx; replace F_x := F_x.below hbx; replace F_h := F_h.below hbx; replace C_t := blkB hbx C_t; replace C_y := blkB hbx C_y; replace C_x := blkB hbx C_x; have hBn := bt' hB1 hbx; clear hB1; have hB1 := hBn; clear hBn; clear hbx; (try clear T_t0 T_t1); (try clear T_y0 T_y1); (try clear T_x0 T_x1); obtain ⟨T_t0, T_t1⟩ := row2c C_t; obtain ⟨T_y0, T_y1⟩ := row2c C_y; obtain ⟨T_x0, T_x1⟩ := row2c C_x; skip) | (go_at_call 12; refine (hL4 _ _ _ _ _ F_x F_y).mono ?_; clear hL4; rintro e w8 ⟨rfl, hbx⟩; replace F_t := F_t.below hbx; replace F_y := F_y.below hbx; replace F_u := F_u.below hbx; replace F_x := F_x.below hbx; replace F_h := F_h.below hbx; replace C_t := blkB hbx C_t; replace C_y := blkB hbx C_y; replace C_x := blkB hbx C_x; have hBn := bt' hB1 hbx; clear hB1; have hB1 := hBn; clear hBn; clear hbx; (try clear T_t0 T_t1); (try clear T_y0 T_y1); (try clear T_x0 T_x1); obtain ⟨T_t0, T_t1⟩ := row2c C_t; obtain ⟨T_y0, T_y1⟩ := row2c C_y; obtain ⟨T_x0, T_x1⟩ := row2c C_x; skip))
    go_ret
    exact ⟨rfl, hB1⟩
  | true =>
    rw [ht] at hTO
    have hln := tOk_len ht
    have hcv := fun n w => convert_one (P := Try.prog) Try.underlying22 Try.underlying5 Try.underlying9 n w
    have hs1 : ∀ x, (strOfNums [x]).size = 1 := fun _ => rfl
    obtain ⟨m, hm⟩ : ∃ m : Int, (len1 : Int).tmod 32 = m := ⟨_, rfl⟩
    have hm' : (len1 : Int) % 32 = m := by rw [← hm, Int.tmod_eq_emod_of_nonneg (by omega)]
    have hm0 : 0 ≤ m := by omega
    have hm1 : m < 32 := by omega
    obtain ⟨n, hn⟩ : ∃ n : Int, (len1 : Int).tmod 16 = n := ⟨_, rfl⟩
    have hn' : (len1 : Int) % 16 = n := by rw [← hn, Int.tmod_eq_emod_of_nonneg (by omega)]
    have hn0 : 0 ≤ n := by omega
    have hn1 : n < 16 := by omega
    have hg := fun (s : ByteArray) (hs : s.size ≤ 1000) (e : hRd fs max s = (([], 0), [], false)) (w' : World) (h1 : Fs w' a' fs.length c' fs) => by
      have hh := implHeadRead fs a' _ c' max s w' h1 DS.out.bd (by omega) (by unfold maxLen; omega)
      rw [e] at hh
      unfold HrOwn at hh
      dsimp only at hh
      simp only [List.length_nil] at hh
      exact hh
    have hQ1 := hg (strOfNums [32 + m] ++ bb) (by rw [ByteArray.size_append, hs1]; omega) (hRd_begin fs max (32 + m) bb (by omega) (by omega))
    have hQ2 := hg (strOfNums [n] ++ bb) (by rw [ByteArray.size_append, hs1]; omega) (hRd_begin fs max n bb (by omega) (by omega))
    have hQ3 := hg (strOfNums [135 + (fs.length : Int)]) (by rw [hs1]; omega) (by rw [show 135 + (fs.length : Int) = 128 + (7 + fs.length) by omega]; exact hRd_place fs max (7 + fs.length) (by omega) (by omega) (by omega))
    have hQ4 := hg ⟨#[128]⟩ (by decide) (hRd_place fs max 0 (by omega) (by omega) (by omega))
    clear hg ht
    rcases hRd_two fs max bb with hr | ⟨gs, h, hr⟩
    · rw [hr] at hSR hIR
      unfold HrAns at hSR
      unfold HrOwn at hIR
      dsimp only at hSR hIR
      have hL1 := fun (w' : World) (x y : Option Addr) (p q : Nat) (h1 : Fs w' x ([] : List Fd).length p ([] : List Fd)) (h2 : Fs w' y ([] : List Fd).length q ([] : List Fd)) => lkFields_same ([] : List Fd) x y p q w' h1 h2 (by decide)
      have hL2 := fun (w' : World) (x y : Option Addr) (p q : Nat) (h1 : Fs w' x ([] : List Fd).length p ([] : List Fd)) (h2 : Fs w' y ([] : List Fd).length q ([] : List Fd)) => lkTable_same ([] : List Fd) x y p q 0 w' h1 h2 (by decide)
      simp only [List.length_nil] at hIR hL1 hL2
      clear hr
      go_upto_region 8 with (first | (go_at_call 9; refine (hSR _ F_t).mono ?_; clear hSR; rintro e w2 ⟨a2, n2, c2, b2, m2, d2, rfl, F_y, F_u, hbx⟩; replace F_t := F_t.below hbx; replace C_t := blkB hbx C_t; have hBn := bt' hB1 hbx; clear hB1; have hB1 := hBn; clear hBn; clear hbx; obtain rfl : n2 = 0 := F_y.len.symm; obtain rfl : m2 = 0 := F_u.len.symm; have hbA : Below w2.heap.size w2 (w2.alloc (.cells #[.slice a2 0 c2, .int .i64 0] 25)) := (Below.refl _ _).alloc (Nat.le_refl _) _; replace F_t := F_t.below hbA; replace F_y := F_y.below hbA; replace F_u := F_u.below hbA; replace C_t := blkB hbA C_t; have hBn := bt' hB1 hbA; clear hB1; have hB1 := hBn; clear hBn; clear hbA; have C_y : (w2.alloc (.cells #[.slice a2 0 c2, .int .i64 0] 25)).heap[w2.heap.size]? = some (.cells #[.slice a2 0 c2, .int .i64 0] 25 (0, 0)) := heap_alloc_last w2 _; (try clear T_t0 T_t1); (try clear T_y0 T_y1); obtain ⟨T_t0, T_t1⟩ := row2c C_t; obtain ⟨T_y0, T_y1⟩ := row2c C_y; skip) | (go_at_call 10; refine (hIR _ F_t).mono ?_; clear hIR; rintro e w3 ⟨v3, u3, rfl, hown, hownu, _, hbx⟩; replace F_t := F_t.below hbx; replace F_y := F_y.below hbx; replace F_u := F_u.below hbx; replace C_t := blkB hbx C_t; replace C_y := blkB hbx C_y; have hBn := bt' hB1 hbx; clear hB1; have hB1 := hBn; clear hBn; clear hbx; obtain ⟨a3, c3, rfl⟩ := own_formT hown; have F_x := own_Fs hown; obtain ⟨b3, d3, rfl⟩ := own_formT hownu; have F_h := own_Fs hownu; clear hown hownu; have hbA : Below w3.heap.size w3 (w3.alloc (.cells #[.slice a3 0 c3, .int .i64 0] 25)) := (Below.refl _ _).alloc (Nat.le_refl _) _; replace F_t := F_t.below hbA; replace F_y := F_y.below hbA; replace F_u := F_u.below hbA; replace F_x := F_x.below hbA; replace F_h := F_h.below hbA; replace C_t := blkB hbA C_t; replace C_y := blkB hbA C_y; have hBn := bt' hB1 hbA; clear hB1; have hB1 := hBn; clear hBn; clear hbA; have C_x : (w3.alloc (.cells #[.slice a3 0 c3, .int .i64 0] 25)).heap[w3.heap.size]? = some (.cells #[.slice a3 0 c3, .int .i64 0] 25 (0, 0)) := heap_alloc_last w3 _; (try clear T_t0 T_t1); (try clear T_y0 T_y1); (try clear T_x0 T_x1); obtain ⟨T_t0, T_t1⟩ := row2c C_t; obtain ⟨T_y0, T_y1⟩ := row2c C_y; obtain ⟨T_x0, T_x1⟩ := row2c C_x; skip) | (go_at_call 11; refine (hL1 _ _ _ _ _ F_h F_u).mono ?_; clear hL1; rintro e w4 ⟨rfl, hbx⟩; replace F_t := F_t.below hbx; replace F_y := F_y.below hbx; replace F_u := F_u.below hbx; replace F_x := F_x.below hbx; replace F_h := F_h.below hbx; replace C_t := blkB hbx C_t; replace C_y := blkB hbx C_y; replace C_x := blkB hbx C_x; have hBn := bt' hB1 hbx; clear hB1; have hB1 := hBn; clear hBn; clear hbx; (try clear T_t0 T_t1); (try clear T_y0 T_y1); (try clear T_x0 T_x1); obtain ⟨T_t0, T_t1⟩ := row2c C_t; obtain ⟨T_y0, T_y1⟩ := row2c C_y; obtain ⟨T_x0, T_x1⟩ := row2c C_x; skip) | (go_at_call 12; refine (hL2 _ _ _ _ _ F_x F_y).mono ?_; clear hL2; rintro e w5 ⟨rfl, hbx⟩; replace F_t := F_t.below hbx; replace F_y := F_y.below hbx; replace F_u := F_u.below hbx; replace F_x := F_x.below hbx; replace F_h := F_h.below hbx; replace C_t := blkB hbx C_t; replace C_y := blkB hbx C_y; replace C_x := blkB hbx C_x; have hBn := bt' hB1 hbx; clear hB1; have hB1 := hBn; clear hBn; clear hbx; (try clear T_t0 T_t1); (try clear T_y0 T_y1); (try clear T_x0 T_x1); obtain ⟨T_t0, T_t1⟩ := row2c C_t; obtain ⟨T_y0, T_y1⟩ := row2c C_y; obtain ⟨T_x0, T_x1⟩ := row2c C_x; skip) | (go_at_call 13; refine (hTO _ F_t).mono ?_; clear hTO; rintro e w6 ⟨rfl, hbx⟩; replace F_t := F_t.below hbx; replace F_y := F_y.below hbx; replace F_u := F_u.below hbx; replace F_x := F_x.below hbx; replace F_h := F_h.below hbx; replace C_t := blkB hbx C_t; replace C_y := blkB hbx C_y; replace C_x := blkB hbx C_x; have hBn := bt' hB1 hbx; clear hB1; have hB1 := hBn; clear hBn; clear hbx; (try clear T_t0 T_t1); (try clear T_y0 T_y1); (try clear T_x0 T_x1); obtain ⟨T_t0, T_t1⟩ := row2c C_t; obtain ⟨T_y0, T_y1⟩ := row2c C_y; obtain ⟨T_x0, T_x1⟩ := row2c C_x; skip))
      clear F_x F_y F_h F_u C_x C_y T_x0 T_x1 T_y0 T_y1
      have HB1 : Hid _ := hB1
      clear hB1
      have hBa := HB1.out
      clear HB1
      go_wp2_with fail
      refine (hQ1 _ (F_t.below ((Below.refl _ _).alloc (Nat.le_refl _) _))).mono ?_
      clear hQ1
      rintro e wq1 ⟨v1, z1, rfl, hown, hownu, _, hbx⟩
      obtain ⟨aq1, cq1, rfl⟩ := own_formT hown
      obtain ⟨bq1, dq1, rfl⟩ := own_formT hownu
      have hby : Below (w6).heap.size (w6) wq1 := bt' ((Below.refl _ _).alloc (Nat.le_refl _) _) hbx
      replace F_t := F_t.below hby
      replace C_t := blkB hby C_t
      have hBb := bt' hBa hby
      clear hBa hby hbx hown hownu T_t0 T_t1
      have hbz2 : Below wq1.heap.size wq1 (wq1.alloc (.cells #[.slice aq1 0 cq1, .int .i64 0] 25)) := ((Below.refl _ _).alloc (Nat.le_refl _) _)
      replace F_t := F_t.below hbz2
      replace C_t := blkB hbz2 C_t
      have hBa := bt' hBb hbz2
      clear hBb hbz2
      obtain ⟨T_t0, T_t1⟩ := row2c C_t
      go_upto_region 9 with fail
      refine wabs (fun U => Fs U a' fs.length c' fs ∧ U.heap[w1.heap.size]? = some (.cells #[.slice a' fs.length c', .int .i64 max] 25 (0, 0)) ∧ Below w.heap.size w U) ⟨F_t, C_t, hBa⟩ ?_
      clear F_t C_t hBa T_t0 T_t1
      rintro U1 ⟨F_t, C_t, hBa⟩
      obtain ⟨T_t0, T_t1⟩ := row2c C_t
      go_wp2_with fail
      refine (hQ2 _ (F_t.below ((Below.refl _ _).alloc (Nat.le_refl _) _))).mono ?_
      clear hQ2
      rintro e wq2 ⟨v2, z2, rfl, hown, hownu, _, hbx⟩
      obtain ⟨aq2, cq2, rfl⟩ := own_formT hown
      obtain ⟨bq2, dq2, rfl⟩ := own_formT hownu
      have hby : Below (U1).heap.size (U1) wq2 := bt' ((Below.refl _ _).alloc (Nat.le_refl _) _) hbx
      replace F_t := F_t.below hby
      replace C_t := blkB hby C_t
      have hBb := bt' hBa hby
      clear hBa hby hbx hown hownu T_t0 T_t1
      have hbz2 : Below wq2.heap.size wq2 (wq2.alloc (.cells #[.slice aq2 0 cq2, .int .i64 0] 25)) := ((Below.refl _ _).alloc (Nat.le_refl _) _)
      replace F_t := F_t.below hbz2
      replace C_t := blkB hbz2 C_t
      have hBa := bt' hBb hbz2
      clear hBb hbz2
      obtain ⟨T_t0, T_t1⟩ := row2c C_t
      go_upto_region 10 with fail
      refine wabs (fun U => Fs U a' fs.length c' fs ∧ U.heap[w1.heap.size]? = some (.cells #[.slice a' fs.length c', .int .i64 max] 25 (0, 0)) ∧ Below w.heap.size w U) ⟨F_t, C_t, hBa⟩ ?_
      clear F_t C_t hBa T_t0 T_t1
      rintro U2 ⟨F_t, C_t, hBa⟩
      obtain ⟨T_t0, T_t1⟩ := row2c C_t
      go_wp2_with fail
      refine (hQ3 _ (F_t.below ((Below.refl _ _).alloc (Nat.le_refl _) _))).mono ?_
      clear hQ3
      rintro e wq3 ⟨v3, z3, rfl, hown, hownu, _, hbx⟩
      obtain ⟨aq3, cq3, rfl⟩ := own_formT hown
      obtain ⟨bq3, dq3, rfl⟩ := own_formT hownu
      have hby : Below (U2).heap.size (U2) wq3 := bt' ((Below.refl _ _).alloc (Nat.le_refl _) _) hbx
      replace F_t := F_t.below hby
      replace C_t := blkB hby C_t
      have hBb := bt' hBa hby
      clear hBa hby hbx hown hownu T_t0 T_t1
      have hbz2 : Below wq3.heap.size wq3 (wq3.alloc (.cells #[.slice aq3 0 cq3, .int .i64 0] 25)) := ((Below.refl _ _).alloc (Nat.le_refl _) _)
      replace F_t := F_t.below hbz2
      replace C_t := blkB hbz2 C_t
      have hBa := bt' hBb hbz2
      clear hBb hbz2
      obtain ⟨T_t0, T_t1⟩ := row2c C_t
      go_upto_region 11 with fail
      refine wabs (fun U => Fs U a' fs.length c' fs ∧ U.heap[w1.heap.size]? = some (.cells #[.slice a' fs.length c', .int .i64 max] 25 (0, 0)) ∧ Below w.heap.size w U) ⟨F_t, C_t, hBa⟩ ?_
      clear F_t C_t hBa T_t0 T_t1
      rintro U3 ⟨F_t, C_t, hBa⟩
      obtain ⟨T_t0, T_t1⟩ := row2c C_t
      go_wp2_with fail
      refine (hQ4 _ F_t).mono ?_
      clear hQ4
      rintro e wq4 ⟨v4, z4, rfl, hown, hownu, _, hbx⟩
      obtain ⟨aq4, cq4, rfl⟩ := own_formT hown
      obtain ⟨bq4, dq4, rfl⟩ := own_formT hownu
      have hby : Below (U3).heap.size (U3) wq4 := hbx
      replace F_t := F_t.below hby
      replace C_t := blkB hby C_t
      have hBb := bt' hBa hby
      clear hBa hby hbx hown hownu T_t0 T_t1
      have hbz2 : Below wq4.heap.size wq4 (wq4.alloc (.cells #[.slice aq4 0 cq4, .int .i64 0] 25)) := ((Below.refl _ _).alloc (Nat.le_refl _) _)
      replace F_t := F_t.below hbz2
      replace C_t := blkB hbz2 C_t
      have hBa := bt' hBb hbz2
      clear hBb hbz2
      obtain ⟨T_t0, T_t1⟩ := row2c C_t
      go_wp2
      go_ret
      exact ⟨rfl, hBa⟩
    · obtain ⟨_, _, _, _, k1, k2⟩ := hRd_ok hr
      rw [hr] at hSR hIR
      unfold HrAns at hSR
      unfold HrOwn at hIR
      dsimp only at hSR hIR
      have k3 := tOk_len k1
      have k4 := (hOk_parts k2).2
      have hL1 := fun (w' : World) (x y : Option Addr) (p q : Nat) (h1 : Fs w' x h.length p h) (h2 : Fs w' y h.length q h) => lkFields_same h x y p q w' h1 h2 (by omega)
      have hL2 := fun (w' : World) (x y : Option Addr) (p q : Nat) (h1 : Fs w' x gs.length p gs) (h2 : Fs w' y gs.length q gs) => lkTable_same gs x y p q max w' h1 h2 (by omega)
      clear hr k1 k2
      go_upto_region 8 with (first | (go_at_call 9; refine (hSR _ F_t).mono ?_; clear hSR; rintro e w2 ⟨a2, n2, c2, b2, m2, d2, rfl, F_y, F_u, hbx⟩; replace F_t := F_t.below hbx; replace C_t := blkB hbx C_t; have hBn := bt' hB1 hbx; clear hB1; have hB1 := hBn; clear hBn; clear hbx; obtain rfl := F_y.len; obtain rfl := F_u.len; have hbA : Below w2.heap.size w2 (w2.alloc (.cells #[.slice a2 gs.length c2, .int .i64 max] 25)) := (Below.refl _ _).alloc (Nat.le_refl _) _; replace F_t := F_t.below hbA; replace F_y := F_y.below hbA; replace F_u := F_u.below hbA; replace C_t := blkB hbA C_t; have hBn := bt' hB1 hbA; clear hB1; have hB1 := hBn; clear hBn; clear hbA; have C_y : (w2.alloc (.cells #[.slice a2 gs.length c2, .int .i64 max] 25)).heap[w2.heap.size]? = some (.cells #[.slice a2 gs.length c2, .int .i64 max] 25 (0, 0)) := heap_alloc_last w2 _; (try clear T_t0 T_t1); (try clear T_y0 T_y1); obtain ⟨T_t0, T_t1⟩ := row2c C_t; obtain ⟨T_y0, T_y1⟩ := row2c C_y; skip) | (go_at_call 10; refine (hIR _ F_t).mono ?_; clear hIR; rintro e w3 ⟨v3, u3, rfl, hown, hownu, _, hbx⟩; replace F_t := F_t.below hbx; replace F_y := F_y.below hbx; replace F_u := F_u.below hbx; replace C_t := blkB hbx C_t; replace C_y := blkB hbx C_y; have hBn := bt' hB1 hbx; clear hB1; have hB1 := hBn; clear hBn; clear hbx; obtain ⟨a3, c3, rfl⟩ := own_formT hown; have F_x := own_Fs hown; obtain ⟨b3, d3, rfl⟩ := own_formT hownu; have F_h := own_Fs hownu; clear hown hownu; have hbA : Below w3.heap.size w3 (w3.alloc (.cells #[.slice a3 gs.length c3, .int .i64 max] 25)) := (Below.refl _ _).alloc (Nat.le_refl _) _; replace F_t := F_t.below hbA; replace F_y := F_y.below hbA; replace F_u := F_u.below hbA; replace F_x := F_x.below hbA; replace F_h := F_h.below hbA; replace C_t := blkB hbA C_t; replace C_y := blkB hbA C_y; have hBn := bt' hB1 hbA; clear hB1; have hB1 := hBn; clear hBn; clear hbA; have C_x : (w3.alloc (.cells #[.slice a3 gs.length c3, .int .i64 max] 25)).heap[w3.heap.size]? = some (.cells #[.slice a3 gs.length c3, .int .i64 max] 25 (0, 0)) := heap_alloc_last w3 _; (try clear T_t0 T_t1); (try clear T_y0 T_y1); (try clear T_x0 T_x1); obtain ⟨T_t0, T_t1⟩ := row2c C_t; obtain ⟨T_y0, T_y1⟩ := row2c C_y; obtain ⟨T_x0, T_x1⟩ := row2c C_x; skip) | (go_at_call 11; refine (hL1 _ _ _ _ _ F_h F_u).mono ?_; clear hL1; rintro e w4 ⟨rfl, hbx⟩; replace F_t := F_t.below hbx; replace F_y := F_y.below hbx; replace F_u := F_u.below hbx; replace F_x := F_x.below hbx; replace F_h := F_h.below hbx; replace C_t := blkB hbx C_t; replace C_y := blkB hbx C_y; replace C_x := blkB hbx C_x; have hBn := bt' hB1 hbx; clear hB1; have hB1 := hBn; clear hBn; clear hbx; (try clear T_t0 T_t1); (try clear T_y0 T_y1); (try clear T_x0 T_x1); obtain ⟨T_t0, T_t1⟩ := row2c C_t; obtain ⟨T_y0, T_y1⟩ := row2c C_y; obtain ⟨T_x0, T_x1⟩ := row2c C_x; skip) | (go_at_call 12; refine (hL2 _ _ _ _ _ F_x F_y).mono ?_; clear hL2; rintro e w5 ⟨rfl, hbx⟩; replace F_t := F_t.below hbx; replace F_y := F_y.below hbx; replace F_u := F_u.below hbx; replace F_x := F_x.below hbx; replace F_h := F_h.below hbx; replace C_t := blkB hbx C_t; replace C_y := blkB hbx C_y; replace C_x := blkB hbx C_x; have hBn := bt' hB1 hbx; clear hB1; have hB1 := hBn; clear hBn; clear hbx; (try clear T_t0 T_t1); (try clear T_y0 T_y1); (try clear T_x0 T_x1); obtain ⟨T_t0, T_t1⟩ := row2c C_t; obtain ⟨T_y0, T_y1⟩ := row2c C_y; obtain ⟨T_x0, T_x1⟩ := row2c C_x; skip) | (go_at_call 13; refine (hTO _ F_t).mono ?_; clear hTO; rintro e w6 ⟨rfl, hbx⟩; replace F_t := F_t.below hbx; replace F_y := F_y.below hbx; replace F_u := F_u.below hbx; replace F_x := F_x.below hbx; replace F_h := F_h.below hbx; replace C_t := blkB hbx C_t; replace C_y := blkB hbx C_y; replace C_x := blkB hbx C_x; have hBn := bt' hB1 hbx; clear hB1; have hB1 := hBn; clear hBn; clear hbx; (try clear T_t0 T_t1); (try clear T_y0 T_y1); (try clear T_x0 T_x1); obtain ⟨T_t0, T_t1⟩ := row2c C_t; obtain ⟨T_y0, T_y1⟩ := row2c C_y; obtain ⟨T_x0, T_x1⟩ := row2c C_x; skip))
      clear F_x F_y F_h F_u C_x C_y T_x0 T_x1 T_y0 T_y1
      have HB1 : Hid _ := hB1
      clear hB1
      have hBa := HB1.out
      clear HB1
      go_wp2_with fail
      refine (hQ1 _ (F_t.below ((Below.refl _ _).alloc (Nat.le_refl _) _))).mono ?_
      clear hQ1
      rintro e wq1 ⟨v1, z1, rfl, hown, hownu, _, hbx⟩
      obtain ⟨aq1, cq1, rfl⟩ := own_formT hown
      obtain ⟨bq1, dq1, rfl⟩ := own_formT hownu
      have hby : Below (w6).heap.size (w6) wq1 := bt' ((Below.refl _ _).alloc (Nat.le_refl _) _) hbx
      replace F_t := F_t.below hby
      replace C_t := blkB hby C_t
      have hBb := bt' hBa hby
      clear hBa hby hbx hown hownu T_t0 T_t1
      have hbz2 : Below wq1.heap.size wq1 (wq1.alloc (.cells #[.slice aq1 0 cq1, .int .i64 0] 25)) := ((Below.refl _ _).alloc (Nat.le_refl _) _)
      replace F_t := F_t.below hbz2
      replace C_t := blkB hbz2 C_t
      have hBa := bt' hBb hbz2
      clear hBb hbz2
      obtain ⟨T_t0, T_t1⟩ := row2c C_t
      go_upto_region 9 with fail
      refine wabs (fun U => Fs U a' fs.length c' fs ∧ U.heap[w1.heap.size]? = some (.cells #[.slice a' fs.length c', .int .i64 max] 25 (0, 0)) ∧ Below w.heap.size w U) ⟨F_t, C_t, hBa⟩ ?_
      clear F_t C_t hBa T_t0 T_t1
      rintro U1 ⟨F_t, C_t, hBa⟩
      obtain ⟨T_t0, T_t1⟩ := row2c C_t
      go_wp2_with fail
      refine (hQ2 _ (F_t.below ((Below.refl _ _).alloc (Nat.le_refl _) _))).mono ?_
      clear hQ2
      rintro e wq2 ⟨v2, z2, rfl, hown, hownu, _, hbx⟩
      obtain ⟨aq2, cq2, rfl⟩ := own_formT hown
      obtain ⟨bq2, dq2, rfl⟩ := own_formT hownu
      have hby : Below (U1).heap.size (U1) wq2 := bt' ((Below.refl _ _).alloc (Nat.le_refl _) _) hbx
      replace F_t := F_t.below hby
      replace C_t := blkB hby C_t
      have hBb := bt' hBa hby
      clear hBa hby hbx hown hownu T_t0 T_t1
      have hbz2 : Below wq2.heap.size wq2 (wq2.alloc (.cells #[.slice aq2 0 cq2, .int .i64 0] 25)) := ((Below.refl _ _).alloc (Nat.le_refl _) _)
      replace F_t := F_t.below hbz2
      replace C_t := blkB hbz2 C_t
      have hBa := bt' hBb hbz2
      clear hBb hbz2
      obtain ⟨T_t0, T_t1⟩ := row2c C_t
      go_upto_region 10 with fail
      refine wabs (fun U => Fs U a' fs.length c' fs ∧ U.heap[w1.heap.size]? = some (.cells #[.slice a' fs.length c', .int .i64 max] 25 (0, 0)) ∧ Below w.heap.size w U) ⟨F_t, C_t, hBa⟩ ?_
      clear F_t C_t hBa T_t0 T_t1
      rintro U2 ⟨F_t, C_t, hBa⟩
      obtain ⟨T_t0, T_t1⟩ := row2c C_t
      go_wp2_with fail
      refine (hQ3 _ (F_t.below ((Below.refl _ _).alloc (Nat.le_refl _) _))).mono ?_
      clear hQ3
      rintro e wq3 ⟨v3, z3, rfl, hown, hownu, _, hbx⟩
      obtain ⟨aq3, cq3, rfl⟩ := own_formT hown
      obtain ⟨bq3, dq3, rfl⟩ := own_formT hownu
      have hby : Below (U2).heap.size (U2) wq3 := bt' ((Below.refl _ _).alloc (Nat.le_refl _) _) hbx
      replace F_t := F_t.below hby
      replace C_t := blkB hby C_t
      have hBb := bt' hBa hby
      clear hBa hby hbx hown hownu T_t0 T_t1
      have hbz2 : Below wq3.heap.size wq3 (wq3.alloc (.cells #[.slice aq3 0 cq3, .int .i64 0] 25)) := ((Below.refl _ _).alloc (Nat.le_refl _) _)
      replace F_t := F_t.below hbz2
      replace C_t := blkB hbz2 C_t
      have hBa := bt' hBb hbz2
      clear hBb hbz2
      obtain ⟨T_t0, T_t1⟩ := row2c C_t
      go_upto_region 11 with fail
      refine wabs (fun U => Fs U a' fs.length c' fs ∧ U.heap[w1.heap.size]? = some (.cells #[.slice a' fs.length c', .int .i64 max] 25 (0, 0)) ∧ Below w.heap.size w U) ⟨F_t, C_t, hBa⟩ ?_
      clear F_t C_t hBa T_t0 T_t1
      rintro U3 ⟨F_t, C_t, hBa⟩
      obtain ⟨T_t0, T_t1⟩ := row2c C_t
      go_wp2_with fail
      refine (hQ4 _ F_t).mono ?_
      clear hQ4
      rintro e wq4 ⟨v4, z4, rfl, hown, hownu, _, hbx⟩
      obtain ⟨aq4, cq4, rfl⟩ := own_formT hown
      obtain ⟨bq4, dq4, rfl⟩ := own_formT hownu
      have hby : Below (U3).heap.size (U3) wq4 := hbx
      replace F_t := F_t.below hby
      replace C_t := blkB hby C_t
      have hBb := bt' hBa hby
      clear hBa hby hbx hown hownu T_t0 T_t1
      have hbz2 : Below wq4.heap.size wq4 (wq4.alloc (.cells #[.slice aq4 0 cq4, .int .i64 0] 25)) := ((Below.refl _ _).alloc (Nat.le_refl _) _)
      replace F_t := F_t.below hbz2
      replace C_t := blkB hbz2 C_t
      have hBa := bt' hBb hbz2
      clear hBb hbz2
      obtain ⟨T_t0, T_t1⟩ := row2c C_t
      go_wp2
      go_ret
      exact ⟨rfl, hBa⟩
end Go.Proofs.Ytbhoafiolalgaab
