import Derived.Test.YtbhoafiolalgaaaHL0
import Derived.Test.YtbhoafiolalgaaaHI4
import Derived.Test.YtbhoafiolalgaaaHD2
import Derived.Deep.RegionHeld3
import Derived.Deep.DeepCutAuto
import Derived.Maps.RangeWalk
import Derived.Test.YtbhoafiolalgaaaHM3
import Derived.Test.YtbhoafiolalgaaaHC0
import Derived.Test.YtbhoafiolalgaaaBM
namespace Go.Proofs.Ytbhoafiolalgaaa
open Go.RowKit
set_option linter.unusedVariables false

theorem strOne_at (n : Int) (h0 : 0 ≤ n) (h1 : n ≤ 255) (h : 0 < (strOfNums [n]).size) : (((strOfNums [n])[0]'h).toNat : Int) = n := by
  have e : (strOfNums [n])[0]'h = UInt8.ofNat n.toNat := rfl
  rw [e, UInt8.toNat_ofNat']
  omega
set_option maxRecDepth 100000 in
set_option maxHeartbeats 20000000 in
theorem fnHeadFixed_walk (a0 : Option Addr) (len0 cap0 : Nat) (z0 : List Int) (a1 : Option Addr) (len1 cap1 : Nat) (z1 : List Int) (w : World) (w0 : Row w a0 len0 cap0 z0) (w1 : Row w a1 len1 cap1 z1) :
    Calls Try.prog 12 #[.slice a0 len0 cap0, .slice a1 len1 cap1] w fun e w' => e = .returned (.bool true) ∧ Below w.heap.size w w' := by
  by_cases c0 : (1048576 : Int) < len0
  · clear w0 w1
    go_enter Try.func12, Try.ntmps12
    go_wp2
    go_ret
    exact ⟨rfl, Below.refl _ _⟩
  by_cases c1 : (1048576 : Int) < len1
  · clear w0 w1
    go_enter Try.func12, Try.ntmps12
    go_wp2
    go_ret
    exact ⟨rfl, Below.refl _ _⟩
  have R0 : Hid (Row w a0 len0 cap0 z0) := w0
  have R1 : Hid (Row w a1 len1 cap1 z1) := w1
  clear w0 w1
  go_enter Try.func12, Try.ntmps12
  go_wp2_with fail
  refine (drawHeadWrite _ _ _ _ _ R0.out).mono ?_
  rintro e w1 ⟨fs, h, max, a', ah, c', ch, rfl, ⟨lF, sF, F_t⟩, ⟨lH, sH, F_h⟩, hB1⟩
  have DS : Hid (fsSm fs) := sF
  have DH : Hid (fsSm h) := sH
  clear sF sH R0 R1
  have hbA : Below w1.heap.size w1 (w1.alloc (.cells #[.slice a' fs.length c', .int .i64 max] 25)) := (Below.refl _ _).alloc (Nat.le_refl _) _
  replace F_t := F_t.below hbA
  replace F_h := F_h.below hbA
  have hBn := bt' hB1 hbA
  clear hB1
  have hB1 := hBn
  clear hBn
  clear hbA
  have C_t : (w1.alloc (.cells #[.slice a' fs.length c', .int .i64 max] 25)).heap[w1.heap.size]? = some (.cells #[.slice a' fs.length c', .int .i64 max] 25 (0, 0)) := heap_alloc_last w1 _
  (try clear T_t0 T_t1)
  obtain ⟨T_t0, T_t1⟩ := row2c C_t
  cases ht : tOk fs max with
  | false =>
    have hSW := fun (w' : World) (h1 : Fs w' a' fs.length c' fs) (h2 : Fs w' ah h.length ch h) => specHeadWrite fs h a' ah _ c' _ ch max w' h1 DS.out.bd (by omega) h2 DH.out.bd (by omega)
    have hIW := fun (w' : World) (h1 : Fs w' a' fs.length c' fs) (h2 : Fs w' ah h.length ch h) => implHeadWrite fs h a' ah _ c' _ ch max w' h1 DS.out.bd (by omega) h2 DH.out.bd (by omega)
    have hTO := fun (w' : World) (h1 : Fs w' a' fs.length c' fs) => specTableOk fs a' _ c' max w' h1 DS.out.bd (by omega)
    rw [hWr_bad (by rw [ht]; rfl)] at hSW hIW
    rw [ht] at hTO
    unfold HwAns at hSW
    unfold HwOwn at hIW
    dsimp only at hSW hIW
    have hL1 := fun (w' : World) (x y : Option Addr) (p q : Nat) (h1 : Fs w' x ([] : List Fd).length p ([] : List Fd)) (h2 : Fs w' y ([] : List Fd).length q ([] : List Fd)) => lkTable_same ([] : List Fd) x y p q 0 w' h1 h2 (by decide)
    have hL2 := fun (w' : World) (x y : Option Addr) (p q : Nat) (h1 : Fs w' x ([] : List Fd).length p ([] : List Fd)) (h2 : Fs w' y ([] : List Fd).length q ([] : List Fd)) => lkTable_same ([] : List Fd) x y p q 0 w' h1 h2 (by decide)
    simp only [List.length_nil] at hIW hL1 hL2
    clear ht
    go_wp2_with (first | (go_at_call 15; refine (hSW _ F_t F_h).mono ?_; clear hSW; rintro e w2 ⟨a2, n2, c2, rfl, F_y, hbx⟩; replace F_t := F_t.below hbx; replace F_h := F_h.below hbx; replace C_t := blkB hbx C_t; have hBn := bt' hB1 hbx; clear hB1; have hB1 := hBn; clear hBn; clear hbx; obtain rfl : n2 = 0 := F_y.len.symm; have hbA : Below w2.heap.size w2 (w2.alloc (.cells #[.slice a2 0 c2, .int .i64 0] 25)) := (Below.refl _ _).alloc (Nat.le_refl _) _; replace F_t := F_t.below hbA; replace F_h := F_h.below hbA; replace F_y := F_y.below hbA; replace C_t := blkB hbA C_t; have hBn := bt' hB1 hbA; clear hB1; have hB1 := hBn; clear hBn; clear hbA; have C_y : (w2.alloc (.cells #[.slice a2 0 c2, .int .i64 0] 25)).heap[w2.heap.size]? = some (.cells #[.slice a2 0 c2, .int .i64 0] 25 (0, 0)) := heap_alloc_last w2 _; (try clear T_t0 T_t1); (try clear T_y0 T_y1); obtain ⟨T_t0, T_t1⟩ := row2c C_t; obtain ⟨T_y0, T_y1⟩ := row2c C_y; skip) | (go_at_call 16; refine (hIW _ F_t F_h).mono ?_; clear hIW; rintro e w3 ⟨v3, rfl, hown, hbx⟩; replace F_t := F_t.below hbx; replace F_h := F_h.below hbx; replace F_y := F_y.below hbx; replace C_t := blkB hbx C_t; replace C_y := blkB hbx C_y; have hBn := bt' hB1 hbx; clear hB1; have hB1 := hBn; clear hBn; clear hbx; obtain ⟨a3, c3, rfl⟩ := own_formT hown; have F_x := own_Fs hown; clear hown; have hbA : Below w3.heap.size w3 (w3.alloc (.cells #[.slice a3 0 c3, .int .i64 0] 25)) := (Below.refl _ _).alloc (Nat.le_refl _) _; replace F_t := F_t.below hbA; replace F_h := F_h.below hbA; replace F_y := F_y.below hbA; replace F_x := F_x.below hbA; replace C_t := blkB hbA C_t; replace C_y := blkB hbA C_y; have hBn := bt' hB1 hbA; clear hB1; have hB1 := hBn; clear hBn; clear hbA; have C_x : (w3.alloc (.cells #[.slice a3 0 c3, .int .i64 0] 25)).heap[w3.heap.size]? = some (.cells #[.slice a3 0 c3, .int .i64 0] 25 (0, 0)) := heap_alloc_last w3 _; (try clear T_t0 T_t1); (try clear T_y0 T_y1); (try clear T_x0 T_x1); obtain ⟨T_t0, T_t1⟩ := row2c C_t; obtain ⟨T_y0, T_y1⟩ := row2c C_y; obtain ⟨T_x0, T_x1⟩ := row2c C_x; skip) | (go_at_call 17; refine (hL1 _ _ _ _ _ F_x F_y).mono ?_; clear hL1; rintro e w4 ⟨rfl, hbx⟩; replace F_t := F_t.below hbx; replace F_h := F_h.below hbx; replace F_y := F_y.below hbx; replace F_x := F_x.below hbx; replace C_t := blkB hbx C_t; replace C_y := blkB hbx C_y; replace C_x := blkB hbx C_x; have hBn := bt' hB1 hbx; clear hB1; have hB1 := hBn; clear hBn; clear hbx; (try clear T_t0 T_t1); (try clear T_y0 T_y1); (try clear T_x0 T_x1); obtain ⟨T_t0, T_t1⟩ := row2c C_t; obtain ⟨T_y0, T_y1⟩ := row2c C_y; obtain ⟨T_x0, T_x1⟩ := row2c C_x; skip) | (go_at_call 18; refine (hTO _ F_t).mono ?_; clear hTO; rintro e w5 ⟨rfl, hbx⟩; replace F_t := F_t.below hbx; replace F_h := F_h.below hbx; replace F_y := F_y.below hbx; replace F_x := F_x.below hbx; replace C_t := blkB hbx C_t; replace C_y := blkB hbx C_y; replace C_x := blkB hbx C_x; have hBn := bt' hB1 hbx; clear hB1; have hB1 := hBn; clear hBn; clear hbx; (try clear T_t0 T_t1); (try clear T_y0 T_y1); (try clear T_x0 T_x1); obtain ⟨T_t0, T_t1⟩ := row2c C_t; obtain ⟨T_y0, T_y1⟩ := row2c C_y; obtain ⟨T_x0, T_x1⟩ := row2c C_x; skip) | (go_at_call 17; refine (hL2 _ _ _ _ _ F_x F_y).mono ?_; clear hL2; rintro e w6 ⟨rfl, hbx⟩; replace F_t := F_t.below hbx; replace F_h := F_h.below hbx; replace F_y := F_y.below hbx; replace F_x := F_x.below hbx; replace C_t := blkB hbx C_t; replace C_y := blkB hbx C_y; replace C_x := blkB hbx C_x; have hBn := bt' hB1 hbx; clear hB1; have hB1 := hBn; clear hBn; clear hbx; (try clear T_t0 T_t1); (try clear T_y0 T_y1); (try clear T_x0 T_x1); obtain ⟨T_t0, T_t1⟩ := row2c C_t; obtain ⟨T_y0, T_y1⟩ := row2c C_y; obtain ⟨T_x0, T_x1⟩ := row2c C_x; skip))
    go_ret
    exact ⟨rfl, hB1⟩
  | true =>
    cases hh : hOk h with
    | false =>
      have hSW := fun (w' : World) (h1 : Fs w' a' fs.length c' fs) (h2 : Fs w' ah h.length ch h) => specHeadWrite fs h a' ah _ c' _ ch max w' h1 DS.out.bd (by omega) h2 DH.out.bd (by omega)
      have hIW := fun (w' : World) (h1 : Fs w' a' fs.length c' fs) (h2 : Fs w' ah h.length ch h) => implHeadWrite fs h a' ah _ c' _ ch max w' h1 DS.out.bd (by omega) h2 DH.out.bd (by omega)
      have hTO := fun (w' : World) (h1 : Fs w' a' fs.length c' fs) => specTableOk fs a' _ c' max w' h1 DS.out.bd (by omega)
      rw [ht] at hTO
      have hnz : ¬ (6 : Int) = 0 := by omega
      obtain ⟨m, hm⟩ : ∃ m : Int, (len1 : Int).tmod 6 = m := ⟨_, rfl⟩
      have hm' : (len1 : Int) % 6 = m := by rw [← hm, Int.tmod_eq_emod_of_nonneg (by omega)]
      have hm0 : 0 ≤ m := by omega
      have hm1 : m < 6 := by omega
      obtain ⟨k, rfl⟩ : ∃ k : Nat, m = (k : Int) := ⟨m.toNat, by omega⟩
      have hk6 : k < 6 := by omega
      have hwk : IntKind.i64.wrap ((k : Int) + 1) = (k : Int) + 1 := by rw [IntKind.wrap_i64]; omega
      have hIN := fun (w' : World) (g o c : Nat) (h1 : Fs w' a' fs.length c' fs) (h2 : Fs w' (some ⟨g, o, none⟩) 1 c [fixedL[k]'hk6]) => implHeadWrite fs [fixedL[k]'hk6] a' _ _ c' _ c max w' h1 DS.out.bd (by omega) h2 (hOk_bd (hOk_fixed k hk6)) (by decide)
      rw [hWr_ok ht (hOk_fixed k hk6), wrH_fixed fs max k hk6] at hIN
      unfold HwOwn at hIN
      dsimp only at hIN
      have hfx := fun (W : World) (g o c : Nat) (h2 : Fs W (some ⟨g, o, none⟩) 6 c fixedL) => h2.one k (by exact hk6)
      have hz1 : (strOfNums [128 + ((k : Int) + 1)]).size = 1 := strOfNums_size _
      have hz2 : ∀ h, (((strOfNums [128 + ((k : Int) + 1)])[0]'h).toNat : Int) = 128 + ((k : Int) + 1) := fun h => strOne_at _ (by omega) (by omega) h
      obtain ⟨bb, hbb⟩ : ∃ bb, strOfNums [128 + ((k : Int) + 1)] = bb := ⟨_, rfl⟩
      rw [hbb] at hIN hz1
      have hz3 : ((bb[0]'(by omega)).toNat : Int) = 128 + ((k : Int) + 1) := by subst hbb; exact hz2 _
      clear hz2 hbb
      have e9 : (128 : Int) + ((k : Int) + 1) = 128 + k + 1 := by omega
      rw [e9] at hz3
      clear e9
      rw [hWr_bad (by rw [ht, hh]; rfl)] at hSW hIW
      unfold HwAns at hSW
      unfold HwOwn at hIW
      dsimp only at hSW hIW
      have hL1 := fun (w' : World) (x y : Option Addr) (p q : Nat) (h1 : Fs w' x ([] : List Fd).length p ([] : List Fd)) (h2 : Fs w' y ([] : List Fd).length q ([] : List Fd)) => lkTable_same ([] : List Fd) x y p q 0 w' h1 h2 (by decide)
      simp only [List.length_nil] at hIW hL1
      have hL2 := fun (w' : World) (x y : Option Addr) (p q : Nat) (h1 : Fs w' x fs.length p fs) (h2 : Fs w' y fs.length q fs) => lkTable_same fs x y p q max w' h1 h2 (by omega)
      clear ht hh
      go_upto_region 9 with (first | (go_at_call 15; refine (hSW _ F_t F_h).mono ?_; clear hSW; rintro e w2 ⟨a2, n2, c2, rfl, F_y, hbx⟩; replace F_t := F_t.below hbx; replace F_h := F_h.below hbx; replace C_t := blkB hbx C_t; have hBn := bt' hB1 hbx; clear hB1; have hB1 := hBn; clear hBn; clear hbx; obtain rfl : n2 = 0 := F_y.len.symm; have hbA : Below w2.heap.size w2 (w2.alloc (.cells #[.slice a2 0 c2, .int .i64 0] 25)) := (Below.refl _ _).alloc (Nat.le_refl _) _; replace F_t := F_t.below hbA; replace F_h := F_h.below hbA; replace F_y := F_y.below hbA; replace C_t := blkB hbA C_t; have hBn := bt' hB1 hbA; clear hB1; have hB1 := hBn; clear hBn; clear hbA; have C_y : (w2.alloc (.cells #[.slice a2 0 c2, .int .i64 0] 25)).heap[w2.heap.size]? = some (.cells #[.slice a2 0 c2, .int .i64 0] 25 (0, 0)) := heap_alloc_last w2 _; (try clear T_t0 T_t1); (try clear T_y0 T_y1); obtain ⟨T_t0, T_t1⟩ := row2c C_t; obtain ⟨T_y0, T_y1⟩ := row2c C_y; skip) | (go_at_call 16; refine (hIW _ F_t F_h).mono ?_; clear hIW; rintro e w3 ⟨v3, rfl, hown, hbx⟩; replace F_t := F_t.below hbx; replace F_h := F_h.below hbx; replace F_y := F_y.below hbx; replace C_t := blkB hbx C_t; replace C_y := blkB hbx C_y; have hBn := bt' hB1 hbx; clear hB1; have hB1 := hBn; clear hBn; clear hbx; obtain ⟨a3, c3, rfl⟩ := own_formT hown; have F_x := own_Fs hown; clear hown; have hbA : Below w3.heap.size w3 (w3.alloc (.cells #[.slice a3 0 c3, .int .i64 0] 25)) := (Below.refl _ _).alloc (Nat.le_refl _) _; replace F_t := F_t.below hbA; replace F_h := F_h.below hbA; replace F_y := F_y.below hbA; replace F_x := F_x.below hbA; replace C_t := blkB hbA C_t; replace C_y := blkB hbA C_y; have hBn := bt' hB1 hbA; clear hB1; have hB1 := hBn; clear hBn; clear hbA; have C_x : (w3.alloc (.cells #[.slice a3 0 c3, .int .i64 0] 25)).heap[w3.heap.size]? = some (.cells #[.slice a3 0 c3, .int .i64 0] 25 (0, 0)) := heap_alloc_last w3 _; (try clear T_t0 T_t1); (try clear T_y0 T_y1); (try clear T_x0 T_x1); obtain ⟨T_t0, T_t1⟩ := row2c C_t; obtain ⟨T_y0, T_y1⟩ := row2c C_y; obtain ⟨T_x0, T_x1⟩ := row2c C_x; skip) | (go_at_call 17; refine (hL1 _ _ _ _ _ F_x F_y).mono ?_; clear hL1; rintro e w4 ⟨rfl, hbx⟩; replace F_t := F_t.below hbx; replace F_h := F_h.below hbx; replace F_y := F_y.below hbx; replace F_x := F_x.below hbx; replace C_t := blkB hbx C_t; replace C_y := blkB hbx C_y; replace C_x := blkB hbx C_x; have hBn := bt' hB1 hbx; clear hB1; have hB1 := hBn; clear hBn; clear hbx; (try clear T_t0 T_t1); (try clear T_y0 T_y1); (try clear T_x0 T_x1); obtain ⟨T_t0, T_t1⟩ := row2c C_t; obtain ⟨T_y0, T_y1⟩ := row2c C_y; obtain ⟨T_x0, T_x1⟩ := row2c C_x; skip) | (go_at_call 18; refine (hTO _ F_t).mono ?_; clear hTO; rintro e w5 ⟨rfl, hbx⟩; replace F_t := F_t.below hbx; replace F_h := F_h.below hbx; replace F_y := F_y.below hbx; replace F_x := F_x.below hbx; replace C_t := blkB hbx C_t; replace C_y := blkB hbx C_y; replace C_x := blkB hbx C_x; have hBn := bt' hB1 hbx; clear hB1; have hB1 := hBn; clear hBn; clear hbx; (try clear T_t0 T_t1); (try clear T_y0 T_y1); (try clear T_x0 T_x1); obtain ⟨T_t0, T_t1⟩ := row2c C_t; obtain ⟨T_y0, T_y1⟩ := row2c C_y; obtain ⟨T_x0, T_x1⟩ := row2c C_x; skip))
      have hmx : Try.prog.follows .mixedOrders = true := by kernel_rfl
      have hkeepV : ∀ w1 w2 : World, Below w1.heap.size w1 w2 → (w1.cell? ⟨w1.heap.size, 0, none⟩ = some (.slice a' fs.length c') ∧ w1.cell? ⟨w1.heap.size, 1, none⟩ = some (.int .i64 max) ∧ Below w5.heap.size w5 w1) → (w2.cell? ⟨w1.heap.size, 0, none⟩ = some (.slice a' fs.length c') ∧ w2.cell? ⟨w1.heap.size, 1, none⟩ = some (.int .i64 max) ∧ Below w5.heap.size w5 w2) := by
        rintro w1 w2 hb ⟨h0, h1, hB⟩
        exact ⟨keepc hb h0, keepc hb h1, bt' hB hb⟩
      have hBelV : ∀ w' : World, (w'.cell? ⟨w1.heap.size, 0, none⟩ = some (.slice a' fs.length c') ∧ w'.cell? ⟨w1.heap.size, 1, none⟩ = some (.int .i64 max) ∧ Below w5.heap.size w5 w') → Below w5.heap.size w5 w' := fun w' h => h.2.2
      have hV0 : w5.cell? ⟨w1.heap.size, 0, none⟩ = some (.slice a' fs.length c') ∧ w5.cell? ⟨w1.heap.size, 1, none⟩ = some (.int .i64 max) ∧ Below w5.heap.size w5 w5 := ⟨T_t0, T_t1, Below.refl _ _⟩
      have HFt : Hid _ := F_t
      have HCt : Hid _ := C_t
      have HB1 : Hid _ := hB1
      clear T_t0 T_t1 T_x0 T_x1 T_y0 T_y1 F_t F_h F_x F_y C_t C_x C_y hB1
      have hOfV : ∀ w', Below w5.heap.size w5 w' → (w'.cell? ⟨w1.heap.size, 0, none⟩ = some (.slice a' fs.length c') ∧ w'.cell? ⟨w1.heap.size, 1, none⟩ = some (.int .i64 max) ∧ Below w5.heap.size w5 w') := fun w' hb => ⟨keepc hb hV0.1, keepc hb hV0.2.1, hb⟩
      go_cut [12, 13] from 64 to 73 (fun s s2 wx => ∃ L aL cL, s = .pointer (some ⟨L, 0, none⟩) ∧ s2 = .string bb ∧ wx.heap[L]? = some (.cells #[.slice aL fs.length cL, .int .i64 max] 25 (0, 0)) ∧ Fs wx aL fs.length cL fs ∧ Below w5.heap.size w5 wx)
      case first =>
        go_region_held3 (fun w' => w'.cell? ⟨w1.heap.size, 0, none⟩ = some (.slice a' fs.length c') ∧ w'.cell? ⟨w1.heap.size, 1, none⟩ = some (.int .i64 max) ∧ Below w5.heap.size w5 w') ((first | assumption | exact hOfV _ hE3 | exact hkeepV _ _ ((Below.refl _ _).drew) hV0 | exact hOfV _ ((Below.refl w5.heap.size w5).drew) | exact hOfV _ (((Below.refl w5.heap.size w5).drew).alloc (Nat.le_refl _) _) | exact hkeepV _ _ ((Below.refl _ _).alloc (Nat.le_refl _) _) (by assumption) | exact hkeepV _ _ hb3 (by assumption) | exact hOfV _ hE_w2 | exact hOfV _ (hE_w2.alloc hE_w2.size _) | exact hkeepV _ _ hb_w2 (by assumption) | exact hOfV _ ((hE3.setCell (p := ⟨_, 0, none⟩) hLb _).setCell (p := ⟨_, 1, none⟩) hLb _) | exact hOfV _ (hE3.alloc hE3.size _) | assumption)) ((first | (go_at_call 31; refine (implTableFixed _).mono ?_; rintro e w2 ⟨afx, cfx, rfl, hown2, hb_w2⟩; have hE_w2 := bt' (hBelV _ (by assumption)) hb_w2; have F_f := own_Fs hown2; obtain ⟨gf, of, rfl⟩ := F_f.some' (by decide); have hsf := F_f.oneAt k hk6; have F_o := hfx _ _ _ _ F_f; clear hown2 F_f) | (go_at_call 16; (first | refine (hIN _ _ _ _ (HFt.out.below (hBelV _ (by assumption))) F_o).mono ?_ | refine (hIN _ _ _ _ (HFt.out.below (hBelV _ (by assumption))) (F_o.below ((Below.refl _ _).alloc (Nat.le_refl _) _))).mono ?_); rintro e w3 ⟨v3, rfl, hown3, hb3⟩; obtain ⟨aL, cL, rfl⟩ := own_formT hown3; have hE3 := bt' (hBelV _ (by assumption)) hb3; (first | (have hL3 : w3.heap[w5.heap.size]? = some (.cells #[.slice none 0 0, .int .i64 0] 25 (0, 0)) := blkB hb3 (blkB hb_w2 (heap_alloc_last w5.drew (.cells #[.slice none 0 0, .int .i64 0] 25))); have hLb : w5.heap.size ≤ w5.heap.size := Nat.le_refl _; obtain ⟨l0, l1⟩ := row2c hL3; have q0 := frz 0 hL3; have q1 := frz 1 hL3) | (have hL3 : w3.heap[w2.heap.size]? = some (.cells #[.slice none 0 0, .int .i64 0] 25 (0, 0)) := blkB hb3 (heap_alloc_last w2 (.cells #[.slice none 0 0, .int .i64 0] 25)); have hLb := hE_w2.size; obtain ⟨l0, l1⟩ := row2c hL3; have q0 := frz 0 hL3; have q1 := frz 1 hL3) | skip))))
        all_goals
          first
            | (have hL4 : w3.heap[w5.heap.size]? = some (.cells #[.slice none 0 0, .int .i64 0] 25 (0, 0)) := hL3
               have hne := not_rowT hL4 (by decide) hown3
               have hL6 := set2_heap (.slice aL fs.length cL) (.int .i64 max) hL4
               have hO6 := own_Fs (own_setT (own_setT hown3 ⟨w5.heap.size, 0, none⟩ (.slice aL fs.length cL) hne) ⟨w5.heap.size, 1, none⟩ (.int .i64 max) hne)
               have hE6 := (hE3.setCell (p := ⟨w5.heap.size, 0, none⟩) hLb (.slice aL fs.length cL)).setCell (p := ⟨w5.heap.size, 1, none⟩) hLb (.int .i64 max)
               go_wp2_with fail
               go_meet
               exact ⟨_, aL, cL, rfl, rfl, hL6, hO6, hE6⟩)
            | (have hL4 : w3.heap[w2.heap.size]? = some (.cells #[.slice none 0 0, .int .i64 0] 25 (0, 0)) := hL3
               have hne := not_rowT hL4 (by decide) hown3
               have hL6 := set2_heap (.slice aL fs.length cL) (.int .i64 max) hL4
               have hO6 := own_Fs (own_setT (own_setT hown3 ⟨w2.heap.size, 0, none⟩ (.slice aL fs.length cL) hne) ⟨w2.heap.size, 1, none⟩ (.int .i64 max) hne)
               have hE6 := (hE3.setCell (p := ⟨w2.heap.size, 0, none⟩) hLb (.slice aL fs.length cL)).setCell (p := ⟨w2.heap.size, 1, none⟩) hLb (.int .i64 max)
               go_wp2_with fail
               go_meet
               exact ⟨_, aL, cL, rfl, rfl, hL6, hO6, hE6⟩)
            | (have hL6 := heap_alloc_last w3 (.cells #[.slice aL fs.length cL, .int .i64 max] 25)
               have hO6 := own_Fs (hown3.alloc (.cells #[.slice aL fs.length cL, .int .i64 max] 25))
               have hE6 := hE3.alloc hE3.size (.cells #[.slice aL fs.length cL, .int .i64 max] 25)
               go_wp2_with fail
               go_meet
               exact ⟨_, aL, cL, rfl, rfl, hL6, hO6, hE6⟩)
      case rest =>
        obtain ⟨L, aP, cP, rfl, rfl, hP, F_p, hcP⟩ := hcut
        have F_t := HFt.out.below hcP
        have hB9 := bt' HB1.out hcP
        obtain ⟨t0, t1⟩ := row2c (blkB hcP HCt.out)
        obtain ⟨p0, p1⟩ := row2c hP
        clear hkeepV hBelV hOfV hV0
        go_wp2_with (go_at_call 17; refine (hL2 _ _ _ _ _ F_p F_t).mono ?_; clear hL2; rintro e w9 ⟨rfl, hb9⟩)
        go_ret
        exact ⟨rfl, bt' hB9 hb9⟩
    | true =>
      have hSW := fun (w' : World) (h1 : Fs w' a' fs.length c' fs) (h2 : Fs w' ah h.length ch h) => specHeadWrite fs h a' ah _ c' _ ch max w' h1 DS.out.bd (by omega) h2 DH.out.bd (by omega)
      have hIW := fun (w' : World) (h1 : Fs w' a' fs.length c' fs) (h2 : Fs w' ah h.length ch h) => implHeadWrite fs h a' ah _ c' _ ch max w' h1 DS.out.bd (by omega) h2 DH.out.bd (by omega)
      have hTO := fun (w' : World) (h1 : Fs w' a' fs.length c' fs) => specTableOk fs a' _ c' max w' h1 DS.out.bd (by omega)
      rw [ht] at hTO
      have hnz : ¬ (6 : Int) = 0 := by omega
      obtain ⟨m, hm⟩ : ∃ m : Int, (len1 : Int).tmod 6 = m := ⟨_, rfl⟩
      have hm' : (len1 : Int) % 6 = m := by rw [← hm, Int.tmod_eq_emod_of_nonneg (by omega)]
      have hm0 : 0 ≤ m := by omega
      have hm1 : m < 6 := by omega
      obtain ⟨k, rfl⟩ : ∃ k : Nat, m = (k : Int) := ⟨m.toNat, by omega⟩
      have hk6 : k < 6 := by omega
      have hwk : IntKind.i64.wrap ((k : Int) + 1) = (k : Int) + 1 := by rw [IntKind.wrap_i64]; omega
      have hIN := fun (w' : World) (g o c : Nat) (h1 : Fs w' a' fs.length c' fs) (h2 : Fs w' (some ⟨g, o, none⟩) 1 c [fixedL[k]'hk6]) => implHeadWrite fs [fixedL[k]'hk6] a' _ _ c' _ c max w' h1 DS.out.bd (by omega) h2 (hOk_bd (hOk_fixed k hk6)) (by decide)
      rw [hWr_ok ht (hOk_fixed k hk6), wrH_fixed fs max k hk6] at hIN
      unfold HwOwn at hIN
      dsimp only at hIN
      have hfx := fun (W : World) (g o c : Nat) (h2 : Fs W (some ⟨g, o, none⟩) 6 c fixedL) => h2.one k (by exact hk6)
      have hz1 : (strOfNums [128 + ((k : Int) + 1)]).size = 1 := strOfNums_size _
      have hz2 : ∀ h, (((strOfNums [128 + ((k : Int) + 1)])[0]'h).toNat : Int) = 128 + ((k : Int) + 1) := fun h => strOne_at _ (by omega) (by omega) h
      obtain ⟨bb, hbb⟩ : ∃ bb, strOfNums [128 + ((k : Int) + 1)] = bb := ⟨_, rfl⟩
      rw [hbb] at hIN hz1
      have hz3 : ((bb[0]'(by omega)).toNat : Int) = 128 + ((k : Int) + 1) := by subst hbb; exact hz2 _
      clear hz2 hbb
      have e9 : (128 : Int) + ((k : Int) + 1) = 128 + k + 1 := by omega
      rw [e9] at hz3
      clear e9
      obtain ⟨k1, k2, k3⟩ := wrH_len ht hh
      rw [hWr_ok ht hh] at hSW hIW
      obtain ⟨xs, hxs⟩ : ∃ xs, (wrH fs max h).1 = xs := ⟨_, rfl⟩
      obtain ⟨bs, hbs⟩ : ∃ bs, (wrH fs max h).2 = bs := ⟨_, rfl⟩
      rw [hxs, hbs] at hSW hIW
      rw [hxs] at k1 k2
      unfold HwAns at hSW
      unfold HwOwn at hIW
      dsimp only at hSW hIW
      have hL1 := fun (w' : World) (x y : Option Addr) (p q : Nat) (h1 : Fs w' x xs.length p xs) (h2 : Fs w' y xs.length q xs) => lkTable_same xs x y p q max w' h1 h2 (by omega)
      have hL2 := fun (w' : World) (x y : Option Addr) (p q : Nat) (h1 : Fs w' x fs.length p fs) (h2 : Fs w' y fs.length q fs) => lkTable_same fs x y p q max w' h1 h2 (by omega)
      clear ht hh k1 k3 hxs hbs
      go_upto_region 9 with (first | (go_at_call 15; refine (hSW _ F_t F_h).mono ?_; clear hSW; rintro e w2 ⟨a2, n2, c2, rfl, F_y, hbx⟩; replace F_t := F_t.below hbx; replace F_h := F_h.below hbx; replace C_t := blkB hbx C_t; have hBn := bt' hB1 hbx; clear hB1; have hB1 := hBn; clear hBn; clear hbx; obtain rfl := F_y.len; have hbA : Below w2.heap.size w2 (w2.alloc (.cells #[.slice a2 xs.length c2, .int .i64 max] 25)) := (Below.refl _ _).alloc (Nat.le_refl _) _; replace F_t := F_t.below hbA; replace F_h := F_h.below hbA; replace F_y := F_y.below hbA; replace C_t := blkB hbA C_t; have hBn := bt' hB1 hbA; clear hB1; have hB1 := hBn; clear hBn; clear hbA; have C_y : (w2.alloc (.cells #[.slice a2 xs.length c2, .int .i64 max] 25)).heap[w2.heap.size]? = some (.cells #[.slice a2 xs.length c2, .int .i64 max] 25 (0, 0)) := heap_alloc_last w2 _; (try clear T_t0 T_t1); (try clear T_y0 T_y1); obtain ⟨T_t0, T_t1⟩ := row2c C_t; obtain ⟨T_y0, T_y1⟩ := row2c C_y; skip) | (go_at_call 16; refine (hIW _ F_t F_h).mono ?_; clear hIW; rintro e w3 ⟨v3, rfl, hown, hbx⟩; replace F_t := F_t.below hbx; replace F_h := F_h.below hbx; replace F_y := F_y.below hbx; replace C_t := blkB hbx C_t; replace C_y := blkB hbx C_y; have hBn := bt' hB1 hbx; clear hB1; have hB1 := hBn; clear hBn; clear hbx; obtain ⟨a3, c3, rfl⟩ := own_formT hown; have F_x := own_Fs hown; clear hown; have hbA : Below w3.heap.size w3 (w3.alloc (.cells #[.slice a3 xs.length c3, .int .i64 max] 25)) := (Below.refl _ _).alloc (Nat.le_refl _) _; replace F_t := F_t.below hbA; replace F_h := F_h.below hbA; replace F_y := F_y.below hbA; replace F_x := F_x.below hbA; replace C_t := blkB hbA C_t; replace C_y := blkB hbA C_y; have hBn := bt' hB1 hbA; clear hB1; have hB1 := hBn; clear hBn; clear hbA; have C_x : (w3.alloc (.cells #[.slice a3 xs.length c3, .int .i64 max] 25)).heap[w3.heap.size]? = some (.cells #[.slice a3 xs.length c3, .int .i64 max] 25 (0, 0)) := heap_alloc_last w3 _; (try clear T_t0 T_t1); (try clear T_y0 T_y1); (try clear T_x0 T_x1); obtain ⟨T_t0, T_t1⟩ := row2c C_t; obtain ⟨T_y0, T_y1⟩ := row2c C_y; obtain ⟨T_x0, T_x1⟩ := row2c C_x; skip) | (go_at_call 17; refine (hL1 _ _ _ _ _ F_x F_y).mono ?_; clear hL1; rintro e w4 ⟨rfl, hbx⟩; replace F_t := F_t.below hbx; replace F_h := F_h.below hbx; replace F_y := F_y.below hbx; replace F_x := F_x.below hbx; replace C_t := blkB hbx C_t; replace C_y := blkB hbx C_y; replace C_x := blkB hbx C_x; have hBn := bt' hB1 hbx; clear hB1; have hB1 := hBn; clear hBn; clear hbx; (try clear T_t0 T_t1); (try clear T_y0 T_y1); (try clear T_x0 T_x1); obtain ⟨T_t0, T_t1⟩ := row2c C_t; obtain ⟨T_y0, T_y1⟩ := row2c C_y; obtain ⟨T_x0, T_x1⟩ := row2c C_x; skip) | (go_at_call 18; refine (hTO _ F_t).mono ?_; clear hTO; rintro e w5 ⟨rfl, hbx⟩; replace F_t := F_t.below hbx; replace F_h := F_h.below hbx; replace F_y := F_y.below hbx; replace F_x := F_x.below hbx; replace C_t := blkB hbx C_t; replace C_y := blkB hbx C_y; replace C_x := blkB hbx C_x; have hBn := bt' hB1 hbx; clear hB1; have hB1 := hBn; clear hBn; clear hbx; (try clear T_t0 T_t1); (try clear T_y0 T_y1); (try clear T_x0 T_x1); obtain ⟨T_t0, T_t1⟩ := row2c C_t; obtain ⟨T_y0, T_y1⟩ := row2c C_y; obtain ⟨T_x0, T_x1⟩ := row2c C_x; skip))
      have hmx : Try.prog.follows .mixedOrders = true := by kernel_rfl
      have hkeepV : ∀ w1 w2 : World, Below w1.heap.size w1 w2 → (w1.cell? ⟨w1.heap.size, 0, none⟩ = some (.slice a' fs.length c') ∧ w1.cell? ⟨w1.heap.size, 1, none⟩ = some (.int .i64 max) ∧ Below w5.heap.size w5 w1) → (w2.cell? ⟨w1.heap.size, 0, none⟩ = some (.slice a' fs.length c') ∧ w2.cell? ⟨w1.heap.size, 1, none⟩ = some (.int .i64 max) ∧ Below w5.heap.size w5 w2) := by
        rintro w1 w2 hb ⟨h0, h1, hB⟩
        exact ⟨keepc hb h0, keepc hb h1, bt' hB hb⟩
      have hBelV : ∀ w' : World, (w'.cell? ⟨w1.heap.size, 0, none⟩ = some (.slice a' fs.length c') ∧ w'.cell? ⟨w1.heap.size, 1, none⟩ = some (.int .i64 max) ∧ Below w5.heap.size w5 w') → Below w5.heap.size w5 w' := fun w' h => h.2.2
      have hV0 : w5.cell? ⟨w1.heap.size, 0, none⟩ = some (.slice a' fs.length c') ∧ w5.cell? ⟨w1.heap.size, 1, none⟩ = some (.int .i64 max) ∧ Below w5.heap.size w5 w5 := ⟨T_t0, T_t1, Below.refl _ _⟩
      have HFt : Hid _ := F_t
      have HCt : Hid _ := C_t
      have HB1 : Hid _ := hB1
      clear T_t0 T_t1 T_x0 T_x1 T_y0 T_y1 F_t F_h F_x F_y C_t C_x C_y hB1
      have hOfV : ∀ w', Below w5.heap.size w5 w' → (w'.cell? ⟨w1.heap.size, 0, none⟩ = some (.slice a' fs.length c') ∧ w'.cell? ⟨w1.heap.size, 1, none⟩ = some (.int .i64 max) ∧ Below w5.heap.size w5 w') := fun w' hb => ⟨keepc hb hV0.1, keepc hb hV0.2.1, hb⟩
      go_cut [12, 13] from 64 to 73 (fun s s2 wx => ∃ L aL cL, s = .pointer (some ⟨L, 0, none⟩) ∧ s2 = .string bb ∧ wx.heap[L]? = some (.cells #[.slice aL fs.length cL, .int .i64 max] 25 (0, 0)) ∧ Fs wx aL fs.length cL fs ∧ Below w5.heap.size w5 wx)
      case first =>
        go_region_held3 (fun w' => w'.cell? ⟨w1.heap.size, 0, none⟩ = some (.slice a' fs.length c') ∧ w'.cell? ⟨w1.heap.size, 1, none⟩ = some (.int .i64 max) ∧ Below w5.heap.size w5 w') ((first | assumption | exact hOfV _ hE3 | exact hkeepV _ _ ((Below.refl _ _).drew) hV0 | exact hOfV _ ((Below.refl w5.heap.size w5).drew) | exact hOfV _ (((Below.refl w5.heap.size w5).drew).alloc (Nat.le_refl _) _) | exact hkeepV _ _ ((Below.refl _ _).alloc (Nat.le_refl _) _) (by assumption) | exact hkeepV _ _ hb3 (by assumption) | exact hOfV _ hE_w2 | exact hOfV _ (hE_w2.alloc hE_w2.size _) | exact hkeepV _ _ hb_w2 (by assumption) | exact hOfV _ ((hE3.setCell (p := ⟨_, 0, none⟩) hLb _).setCell (p := ⟨_, 1, none⟩) hLb _) | exact hOfV _ (hE3.alloc hE3.size _) | assumption)) ((first | (go_at_call 31; refine (implTableFixed _).mono ?_; rintro e w2 ⟨afx, cfx, rfl, hown2, hb_w2⟩; have hE_w2 := bt' (hBelV _ (by assumption)) hb_w2; have F_f := own_Fs hown2; obtain ⟨gf, of, rfl⟩ := F_f.some' (by decide); have hsf := F_f.oneAt k hk6; have F_o := hfx _ _ _ _ F_f; clear hown2 F_f) | (go_at_call 16; (first | refine (hIN _ _ _ _ (HFt.out.below (hBelV _ (by assumption))) F_o).mono ?_ | refine (hIN _ _ _ _ (HFt.out.below (hBelV _ (by assumption))) (F_o.below ((Below.refl _ _).alloc (Nat.le_refl _) _))).mono ?_); rintro e w3 ⟨v3, rfl, hown3, hb3⟩; obtain ⟨aL, cL, rfl⟩ := own_formT hown3; have hE3 := bt' (hBelV _ (by assumption)) hb3; (first | (have hL3 : w3.heap[w5.heap.size]? = some (.cells #[.slice none 0 0, .int .i64 0] 25 (0, 0)) := blkB hb3 (blkB hb_w2 (heap_alloc_last w5.drew (.cells #[.slice none 0 0, .int .i64 0] 25))); have hLb : w5.heap.size ≤ w5.heap.size := Nat.le_refl _; obtain ⟨l0, l1⟩ := row2c hL3; have q0 := frz 0 hL3; have q1 := frz 1 hL3) | (have hL3 : w3.heap[w2.heap.size]? = some (.cells #[.slice none 0 0, .int .i64 0] 25 (0, 0)) := blkB hb3 (heap_alloc_last w2 (.cells #[.slice none 0 0, .int .i64 0] 25)); have hLb := hE_w2.size; obtain ⟨l0, l1⟩ := row2c hL3; have q0 := frz 0 hL3; have q1 := frz 1 hL3) | skip))))
        all_goals
          first
            | (have hL4 : w3.heap[w5.heap.size]? = some (.cells #[.slice none 0 0, .int .i64 0] 25 (0, 0)) := hL3
               have hne := not_rowT hL4 (by decide) hown3
               have hL6 := set2_heap (.slice aL fs.length cL) (.int .i64 max) hL4
               have hO6 := own_Fs (own_setT (own_setT hown3 ⟨w5.heap.size, 0, none⟩ (.slice aL fs.length cL) hne) ⟨w5.heap.size, 1, none⟩ (.int .i64 max) hne)
               have hE6 := (hE3.setCell (p := ⟨w5.heap.size, 0, none⟩) hLb (.slice aL fs.length cL)).setCell (p := ⟨w5.heap.size, 1, none⟩) hLb (.int .i64 max)
               go_wp2_with fail
               go_meet
               exact ⟨_, aL, cL, rfl, rfl, hL6, hO6, hE6⟩)
            | (have hL4 : w3.heap[w2.heap.size]? = some (.cells #[.slice none 0 0, .int .i64 0] 25 (0, 0)) := hL3
               have hne := not_rowT hL4 (by decide) hown3
               have hL6 := set2_heap (.slice aL fs.length cL) (.int .i64 max) hL4
               have hO6 := own_Fs (own_setT (own_setT hown3 ⟨w2.heap.size, 0, none⟩ (.slice aL fs.length cL) hne) ⟨w2.heap.size, 1, none⟩ (.int .i64 max) hne)
               have hE6 := (hE3.setCell (p := ⟨w2.heap.size, 0, none⟩) hLb (.slice aL fs.length cL)).setCell (p := ⟨w2.heap.size, 1, none⟩) hLb (.int .i64 max)
               go_wp2_with fail
               go_meet
               exact ⟨_, aL, cL, rfl, rfl, hL6, hO6, hE6⟩)
            | (have hL6 := heap_alloc_last w3 (.cells #[.slice aL fs.length cL, .int .i64 max] 25)
               have hO6 := own_Fs (hown3.alloc (.cells #[.slice aL fs.length cL, .int .i64 max] 25))
               have hE6 := hE3.alloc hE3.size (.cells #[.slice aL fs.length cL, .int .i64 max] 25)
               go_wp2_with fail
               go_meet
               exact ⟨_, aL, cL, rfl, rfl, hL6, hO6, hE6⟩)
      case rest =>
        obtain ⟨L, aP, cP, rfl, rfl, hP, F_p, hcP⟩ := hcut
        have F_t := HFt.out.below hcP
        have hB9 := bt' HB1.out hcP
        obtain ⟨t0, t1⟩ := row2c (blkB hcP HCt.out)
        obtain ⟨p0, p1⟩ := row2c hP
        clear hkeepV hBelV hOfV hV0
        go_wp2_with (go_at_call 17; refine (hL2 _ _ _ _ _ F_p F_t).mono ?_; clear hL2; rintro e w9 ⟨rfl, hb9⟩)
        go_ret
        exact ⟨rfl, bt' hB9 hb9⟩
end Go.Proofs.Ytbhoafiolalgaaa
