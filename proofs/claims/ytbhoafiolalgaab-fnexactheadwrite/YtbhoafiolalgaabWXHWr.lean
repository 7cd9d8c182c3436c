import Derived.Test.YtbhoafiolalgaabBT
import Derived.Test.YtbhoafiolalgaabHL0
import Derived.Test.YtbhoafiolalgaabHI4
import Derived.Test.YtbhoafiolalgaabBQ
import Derived.Test.YtbhoafiolalgaabHR2
import Derived.Deep.RegionHeld3
namespace Go.Proofs.Ytbhoafiolalgaab
open Go.RowKit
set_option linter.unusedVariables false

theorem hWr_16 (fs : List Fd) (max : Int) (h : List Fd) : (hWr fs max h).1.1.length ≤ 16 := by
  cases ht : tOk fs max with
  | false => rw [hWr_bad (by rw [ht]; rfl)]; simp
  | true =>
    cases hh : hOk h with
    | false => rw [hWr_bad (by rw [ht, hh]; rfl)]; simp
    | true => rw [hWr_ok ht hh]; exact (wrH_len ht hh).2.1
set_option maxRecDepth 100000 in
set_option maxHeartbeats 20000000 in
theorem fnExactHeadWrite_walk (fs : List Fd) (a : Option Addr) (n cap : Nat) (max : Int) (h : List Fd) (ah : Option Addr) (nh ch : Nat) (w : World) (hA : FsA w a n cap fs) (hH : FsA w ah nh ch h) :
    Calls Try.prog 5 #[.agg #[.slice a n cap, .int .i64 max], .slice ah nh ch] w fun e w' => e = .returned (.bool true) ∧ Below w.heap.size w w' := by
  obtain rfl : h.length = nh := hH.len
  have HH : Hid (FsA w ah h.length ch h) := hH
  clear hH
  obtain rfl : fs.length = n := hA.len
  have hB0 : Below w.heap.size w (w.alloc (.cells #[.slice a fs.length cap, .int .i64 max] 40)) := ((Below.refl _ _).alloc (Nat.le_refl _) _)
  have C_b0 : Hid ((w.alloc (.cells #[.slice a fs.length cap, .int .i64 max] 40)).heap[w.heap.size]? = some (.cells #[.slice a fs.length cap, .int .i64 max] 40 (0, 0))) := heap_alloc_last w _
  have HA : Hid (FsA w a fs.length cap fs) := hA
  have hsz := szTable_any fs a fs.length cap max 1048576 _ (hA.below hB0) (by decide) (by decide)
  clear hA
  go_enter Try.func5, Try.ntmps5
  go_wp2_with fail
  refine hsz.mono ?_
  clear hsz
  rintro e w0 ⟨r, rfl, hr, hb⟩
  have hz0 : w.heap.size ≤ w0.heap.size := by have := hb.size; simp only [World.size_alloc] at this; omega
  have C_b := blkB2 hb C_b0.out
  have hB := bt' hB0 hb
  clear hB0 hb C_b0
  rcases hr with rfl | ⟨r0, r1, r2, hbd⟩
  · go_wp2
    go_ret
    exact ⟨rfl, hB⟩
  have hn : fs.length ≤ 1048576 := by omega
  have hd : decide (r < 0) = false := by rw [decide_eq_false_iff_not]; omega
  have hto := fun (w' : World) (h : FsA w' a fs.length cap fs) => toTable_any fs a fs.length cap max w' h hn
  unfold TabAns at hto
  simp only at hto
  have hsz2 := szFieldS_any h ah h.length ch r _ (HH.out.below hB) r0 r1
  go_wp2_with fail
  refine hsz2.mono ?_
  clear hsz2
  rintro e w1 ⟨r', rfl, hr', hb⟩
  have hz1 : w0.heap.size ≤ w1.heap.size := hb.size
  replace C_b := blkB2 hb C_b
  replace hB := bt' hB hb
  clear hb
  rcases hr' with rfl | ⟨s0, s1, s2, hbd2⟩
  · go_wp2
    go_ret
    exact ⟨rfl, hB⟩
  have hnh : h.length ≤ 1048576 := by omega
  have hd' : decide (r' < 0) = false := by rw [decide_eq_false_iff_not]; omega
  have htf := fun (w' : World) (h' : FsA w' ah h.length ch h) => toFieldS_any h ah h.length ch w' h' hnh
  have heq := fun (w' : World) (x y : Option Addr) (p q : Nat) (h1 : Fs w' x h.length p h) (h2 : Fs w' y h.length q h) => eqFieldS_any h h x y _ p _ q w' h1 h2 hnh hnh
  rw [eqFs_self] at heq
  have hsp := fun (w' : World) (x y : Option Addr) (p q : Nat) (h1 : Fs w' x fs.length p fs) (h2 : Fs w' y h.length q h) => specHeadWrite fs h x y _ p _ q max w' h1 hbd hn h2 hbd2 hnh
  have him := fun (w' : World) (x y : Option Addr) (p q : Nat) (h1 : Fs w' x fs.length p fs) (h2 : Fs w' y h.length q h) => implHeadWrite fs h x y _ p _ q max w' h1 hbd hn h2 hbd2 hnh
  have hxl := hWr_16 fs max h
  obtain ⟨⟨⟨xs, mx⟩, bs⟩, hX⟩ : ∃ r, hWr fs max h = r := ⟨_, rfl⟩
  rw [hX] at hsp him hxl
  unfold HwAns at hsp
  unfold HwOwn at him
  dsimp only at hsp him hxl
  have hxn : xs.length ≤ 1048576 := by omega
  have hqe := fun (w' : World) (x y : Option Addr) (p q : Nat) (h1 : Fs w' x xs.length p xs) (h2 : Fs w' y xs.length q xs) => eqTable_same xs x y p q mx w' h1 h2 hxn
  clear hX hbd hbd2
  obtain ⟨tb0, tb1⟩ := row2c C_b
  go_wp2_with fail
  refine (hto _ (HA.out.below hB)).mono ?_
  rintro e w2 ⟨v, rfl, ho, hb⟩
  have hz2 : w1.heap.size ≤ w2.heap.size := by have := hb.size; (try simp only [World.size_alloc] at this); omega
  clear tb0 tb1
  replace C_b := blkB2 hb C_b
  replace hB := bt' hB hb
  clear hb
  obtain ⟨ap, cp, rfl⟩ := own_formT ho
  have O_p := own_baseT ho (b' := w1.heap.size) (by (try simp only [World.size_alloc]); omega)
  have L_p : ∀ q, (Value.slice ap fs.length cp).ownBlock = some q → q < w2.heap.size := fun q e => (O_p.lt q e).2
  clear ho
  go_wp2_with fail
  refine (htf _ (HH.out.below hB)).mono ?_
  rintro e w3 ⟨v, rfl, ho, hb⟩
  have hz3 : w2.heap.size ≤ w3.heap.size := by have := hb.size; (try simp only [World.size_alloc] at this); omega
  replace C_b := blkB2 hb C_b
  replace O_p := own_belowT O_p hb
  replace hB := bt' hB hb
  clear hb
  obtain ⟨aq, cq, rfl⟩ := own_formT ho
  have O_q := own_baseT ho (b' := w2.heap.size) (by (try simp only [World.size_alloc]); omega)
  have L_q : ∀ q, (Value.slice aq h.length cq).ownBlock = some q → q < w3.heap.size := fun q e => (O_q.lt q e).2
  clear ho
  go_wp2_with fail
  refine (hsp _ _ _ _ _ (own_Fs O_p) (own_Fs O_q)).mono ?_
  rintro e w4 ⟨au, nu, cu, rfl, F_u, hb⟩
  have hz4 : w3.heap.size ≤ w4.heap.size := by have := hb.size; (try simp only [World.size_alloc] at this); omega
  replace C_b := blkB2 hb C_b
  replace O_p := own_belowT O_p hb
  replace O_q := own_belowT O_q hb
  replace hB := bt' hB hb
  clear hb
  obtain rfl := F_u.len
  have L_u : ∀ g x, au = some ⟨g, x, none⟩ → 0 < xs.length → g < w4.heap.size := F_u.lt2
  clear O_p
  clear O_q
  have hbA : Below w4.heap.size w4 (w4.alloc (.cells #[.slice au xs.length cu, .int .i64 mx] 25)) := ((Below.refl _ _).alloc (Nat.le_refl _) _)
  replace C_b := blkB2 hbA C_b
  replace F_u := F_u.below hbA
  replace hB := bt' hB hbA
  clear hbA
  have C_u := heap_alloc_last w4 (.cells #[.slice au xs.length cu, .int .i64 mx] 25)
  obtain ⟨tb0, tb1⟩ := row2c C_b
  go_wp2_with fail
  refine (hto _ (HA.out.below hB)).mono ?_
  rintro e w5 ⟨v, rfl, ho, hb⟩
  have hz5 : w4.heap.size ≤ w5.heap.size := by have := hb.size; (try simp only [World.size_alloc] at this); omega
  clear tb0 tb1
  replace C_b := blkB2 hb C_b
  replace C_u := blkB2 hb C_u
  replace F_u := F_u.below hb
  replace hB := bt' hB hb
  clear hb
  obtain ⟨ax, cx, rfl⟩ := own_formT ho
  have O_x := own_baseT ho (b' := w4.heap.size) (by (try simp only [World.size_alloc]); omega)
  have L_x : ∀ q, (Value.slice ax fs.length cx).ownBlock = some q → q < w5.heap.size := fun q e => (O_x.lt q e).2
  clear ho
  have hbA : Below w5.heap.size w5 (w5.alloc (.cells #[.slice ax fs.length cx, .int .i64 max] 25)) := ((Below.refl _ _).alloc (Nat.le_refl _) _)
  replace C_b := blkB2 hbA C_b
  replace C_u := blkB2 hbA C_u
  replace O_x := own_belowT O_x hbA
  replace F_u := F_u.below hbA
  replace hB := bt' hB hbA
  clear hbA
  have C_x := heap_alloc_last w5 (.cells #[.slice ax fs.length cx, .int .i64 max] 25)
  go_wp2_with fail
  refine (htf _ (HH.out.below hB)).mono ?_
  rintro e w6 ⟨v, rfl, ho, hb⟩
  have hz6 : w5.heap.size ≤ w6.heap.size := by have := hb.size; (try simp only [World.size_alloc] at this); omega
  replace C_b := blkB2 hb C_b
  replace C_u := blkB2 hb C_u
  replace C_x := blkB2 hb C_x
  replace O_x := own_belowT O_x hb
  replace F_u := F_u.below hb
  replace hB := bt' hB hb
  clear hb
  obtain ⟨ay, cy, rfl⟩ := own_formT ho
  have O_y := own_baseT ho (b' := w5.heap.size) (by (try simp only [World.size_alloc]); omega)
  have L_y : ∀ q, (Value.slice ay h.length cy).ownBlock = some q → q < w6.heap.size := fun q e => (O_y.lt q e).2
  clear ho
  obtain ⟨tx0, tx1⟩ := row2c C_x
  go_wp2_with fail
  refine (him _ _ _ _ _ (own_Fs O_x) (own_Fs O_y)).mono ?_
  rintro e w7 ⟨v, rfl, ho, hb⟩
  have hz7 : w6.heap.size ≤ w7.heap.size := by have := hb.size; (try simp only [World.size_alloc] at this); omega
  clear tx0 tx1
  replace C_b := blkB2 hb C_b
  replace C_u := blkB2 hb C_u
  replace C_x := blkB2 hb C_x
  replace O_x := own_belowT O_x hb
  replace O_y := own_belowT O_y hb
  replace F_u := F_u.below hb
  replace hB := bt' hB hb
  clear hb
  obtain ⟨ag, cg, rfl⟩ := own_formT ho
  have O_g := own_baseT ho (b' := w6.heap.size) (by (try simp only [World.size_alloc]); omega)
  have L_g : ∀ q, (Value.slice ag xs.length cg).ownBlock = some q → q < w7.heap.size := fun q e => (O_g.lt q e).2
  clear ho
  have hbA : Below w7.heap.size w7 (w7.alloc (.cells #[.slice ag xs.length cg, .int .i64 mx] 25)) := ((Below.refl _ _).alloc (Nat.le_refl _) _)
  replace C_b := blkB2 hbA C_b
  replace C_u := blkB2 hbA C_u
  replace C_x := blkB2 hbA C_x
  replace O_x := own_belowT O_x hbA
  replace O_y := own_belowT O_y hbA
  replace O_g := own_belowT O_g hbA
  replace F_u := F_u.below hbA
  replace hB := bt' hB hbA
  clear hbA
  have C_g := heap_alloc_last w7 (.cells #[.slice ag xs.length cg, .int .i64 mx] 25)
  obtain ⟨tg0, tg1⟩ := row2c C_g
  obtain ⟨tu0, tu1⟩ := row2c C_u
  go_wp2_with fail
  refine (hqe _ _ _ _ _ (own_Fs O_g) F_u).mono ?_
  rintro e w8 ⟨rfl, hb⟩
  have hz8 : w7.heap.size ≤ w8.heap.size := by have := hb.size; (try simp only [World.size_alloc] at this); omega
  clear tg0 tg1 tu0 tu1
  replace C_b := blkB2 hb C_b
  replace C_u := blkB2 hb C_u
  replace C_x := blkB2 hb C_x
  replace C_g := blkB2 hb C_g
  replace O_x := own_belowT O_x hb
  replace O_y := own_belowT O_y hb
  replace O_g := own_belowT O_g hb
  replace F_u := F_u.below hb
  replace hB := bt' hB hb
  clear hb
  go_upto_region 14 with fail
  have hmx : Try.prog.follows .mixedOrders = true := by kernel_rfl
  obtain ⟨p0, p1⟩ := row2c C_x
  obtain ⟨p2, p3⟩ := row2c C_b
  have hkeepV : ∀ w1 w2 : World, Below w1.heap.size w1 w2 → (w1.cell? ⟨w5.heap.size, 0, none⟩ = some (.slice ax fs.length cx) ∧ w1.cell? ⟨w5.heap.size, 1, none⟩ = some (.int .i64 max) ∧ w1.cell? ⟨w.heap.size, 0, none⟩ = some (.slice a fs.length cap) ∧ w1.cell? ⟨w.heap.size, 1, none⟩ = some (.int .i64 max) ∧ Below w8.heap.size w8 w1) → (w2.cell? ⟨w5.heap.size, 0, none⟩ = some (.slice ax fs.length cx) ∧ w2.cell? ⟨w5.heap.size, 1, none⟩ = some (.int .i64 max) ∧ w2.cell? ⟨w.heap.size, 0, none⟩ = some (.slice a fs.length cap) ∧ w2.cell? ⟨w.heap.size, 1, none⟩ = some (.int .i64 max) ∧ Below w8.heap.size w8 w2) := by
    rintro w1 w2 hb ⟨h0, h1, h2, h3, hB⟩
    exact ⟨keepc hb h0, keepc hb h1, keepc hb h2, keepc hb h3, bt' hB hb⟩
  have hBelV : ∀ w' : World, (w'.cell? ⟨w5.heap.size, 0, none⟩ = some (.slice ax fs.length cx) ∧ w'.cell? ⟨w5.heap.size, 1, none⟩ = some (.int .i64 max) ∧ w'.cell? ⟨w.heap.size, 0, none⟩ = some (.slice a fs.length cap) ∧ w'.cell? ⟨w.heap.size, 1, none⟩ = some (.int .i64 max) ∧ Below w8.heap.size w8 w') → Below w8.heap.size w8 w' := fun w' h => h.2.2.2.2
  have hV0 : w8.cell? ⟨w5.heap.size, 0, none⟩ = some (.slice ax fs.length cx) ∧ w8.cell? ⟨w5.heap.size, 1, none⟩ = some (.int .i64 max) ∧ w8.cell? ⟨w.heap.size, 0, none⟩ = some (.slice a fs.length cap) ∧ w8.cell? ⟨w.heap.size, 1, none⟩ = some (.int .i64 max) ∧ Below w8.heap.size w8 w8 := ⟨p0, p1, p2, p3, Below.refl _ _⟩
  have HAV : Hid (FsA w8 a fs.length cap fs) := HA.out.below hB
  have hFV : Hid (Fs w8 ax fs.length cx fs) := own_Fs O_x
  have hto3 := hto
  clear p0 p1 p2 p3
  go_region_held3 (fun w' => w'.cell? ⟨w5.heap.size, 0, none⟩ = some (.slice ax fs.length cx) ∧ w'.cell? ⟨w5.heap.size, 1, none⟩ = some (.int .i64 max) ∧ w'.cell? ⟨w.heap.size, 0, none⟩ = some (.slice a fs.length cap) ∧ w'.cell? ⟨w.heap.size, 1, none⟩ = some (.int .i64 max) ∧ Below w8.heap.size w8 w') (first | assumption | exact hkeepV _ _ ((Below.refl _ _).drew) hV0 | exact hkeepV _ _ hbN (by assumption)) ((first | (go_at_call 21; refine (hto3 _ (HAV.out.below (hBelV _ (by assumption)))).mono ?_; clear hto3; rintro e wN ⟨vN, rfl, hownN, hbN⟩; obtain ⟨aN, cN, rfl⟩ := own_formT hownN; have hFN := own_Fs hownN; clear hownN) | (go_at_call 23; refine (eqTable_same fs ax aN cx cN max _ (hFV.out.below (hBelV _ (by assumption))) hFN hn).mono ?_; clear hFN; rintro e wN ⟨rfl, hbN⟩)))
  have hV1 : wN.cell? ⟨w5.heap.size, 0, none⟩ = some (.slice ax fs.length cx) ∧ wN.cell? ⟨w5.heap.size, 1, none⟩ = some (.int .i64 max) ∧ wN.cell? ⟨w.heap.size, 0, none⟩ = some (.slice a fs.length cap) ∧ wN.cell? ⟨w.heap.size, 1, none⟩ = some (.int .i64 max) ∧ Below w8.heap.size w8 wN := by first | assumption | exact hkeepV _ _ hbN (by assumption)
  have hb := hBelV _ hV1
  have hzN : w8.heap.size ≤ wN.heap.size := hb.size
  replace C_b := blkB2 hb C_b
  replace C_u := blkB2 hb C_u
  replace C_x := blkB2 hb C_x
  replace C_g := blkB2 hb C_g
  replace O_x := own_belowT O_x hb
  replace O_y := own_belowT O_y hb
  replace O_g := own_belowT O_g hb
  replace F_u := F_u.below hb
  replace hB := bt' hB hb
  clear hb hV0 hV1 hkeepV hBelV HAV hFV
  go_wp2_with fail
  refine (htf _ (HH.out.below hB)).mono ?_
  rintro e w9 ⟨v, rfl, ho, hb⟩
  have hz9 : wN.heap.size ≤ w9.heap.size := by have := hb.size; (try simp only [World.size_alloc] at this); omega
  replace C_b := blkB2 hb C_b
  replace C_u := blkB2 hb C_u
  replace C_x := blkB2 hb C_x
  replace C_g := blkB2 hb C_g
  replace O_x := own_belowT O_x hb
  replace O_y := own_belowT O_y hb
  replace O_g := own_belowT O_g hb
  replace F_u := F_u.below hb
  replace hB := bt' hB hb
  clear hb
  obtain ⟨aq, cq, rfl⟩ := own_formT ho
  have O_q := own_baseT ho (b' := wN.heap.size) (by (try simp only [World.size_alloc]); omega)
  have L_q : ∀ q, (Value.slice aq h.length cq).ownBlock = some q → q < w9.heap.size := fun q e => (O_q.lt q e).2
  clear ho
  go_wp2_with fail
  refine (heq _ _ _ _ _ (own_Fs O_y) (own_Fs O_q)).mono ?_
  rintro e w10 ⟨rfl, hb⟩
  have hz10 : w9.heap.size ≤ w10.heap.size := by have := hb.size; (try simp only [World.size_alloc] at this); omega
  replace C_b := blkB2 hb C_b
  replace C_u := blkB2 hb C_u
  replace C_x := blkB2 hb C_x
  replace C_g := blkB2 hb C_g
  replace O_x := own_belowT O_x hb
  replace O_y := own_belowT O_y hb
  replace O_g := own_belowT O_g hb
  replace O_q := own_belowT O_q hb
  replace F_u := F_u.below hb
  replace hB := bt' hB hb
  clear hb
  clear O_q
  have hm1 := fun (w' : World) (b : Nat) (h' : w'.ownsRow b 65 3 (.slice ax fs.length cx) fs.length (cellsF fs)) => markTable_any _ b _ _ _ max w' h' (by omega)
  have hm2 := fun (w' : World) (b : Nat) (h' : w'.ownsRow b 65 3 (.slice ay h.length cy) h.length (cellsF h)) => markFieldS_any _ b _ _ (1 + 3 * fs.length) _ w' h' (by omega) (by omega) (by omega)
  obtain ⟨K2, hK2⟩ : ∃ K : Nat, 1 + 3 * fs.length + 3 * h.length = K := ⟨_, rfl⟩
  rw [hK2] at hm2
  obtain ⟨K1, hK1⟩ : ∃ K : Nat, 1 + 3 * fs.length = K := ⟨_, rfl⟩
  rw [hK1] at hm1 hm2
  have hdk : decide ((K2 : Int) < 0) = false := by rw [decide_eq_false_iff_not]; omega
  have hdk2 : ¬ (K2 : Int) < 0 := by omega
  clear hK1 hK2
  obtain ⟨tx0, tx1⟩ := row2c C_x
  go_wp2_with fail
  refine (hm1 _ _ O_x).mono ?_
  rintro e w11 ⟨rfl, om, hg⟩
  have hz11 : w10.heap.size ≤ w11.heap.size := by have := hg.size; (try simp only [World.size_alloc] at this); omega
  clear tx0 tx1
  replace C_b := row_aside C_b (by decide) O_x hg
  replace C_u := row_aside C_u (by decide) O_x hg
  replace C_x := row_aside C_x (by decide) O_x hg
  replace C_g := row_aside C_g (by decide) O_x hg
  replace O_y := own_aside2 (v := .slice ay h.length cy) (base' := 0) (n' := 0) (e' := 0) (ys := []) O_y (fun q e => by have := L_x q e; omega) hg
  replace O_g := own_aside2 (v := .slice ag xs.length cg) (base' := 0) (n' := 0) (e' := 0) (ys := []) O_g (fun q e => by have := L_x q e; omega) hg
  replace F_u := F_u.kept hg (fun g o e h0 heq => by have h1 := (O_x.lt g heq.symm).1; have h2 := L_u g o e h0; omega)
  replace hB := hB.grown hg hB.size (fun q hq => by have := (O_x.lt q hq).1; omega)
  clear O_x hg
  have O_x := om
  clear om
  clear hm1
  clear C_x
  clear O_x
  go_wp2_with fail
  refine (hm2 _ _ O_y).mono ?_
  rintro e w12 ⟨rfl, om, hg⟩
  have hz12 : w11.heap.size ≤ w12.heap.size := by have := hg.size; (try simp only [World.size_alloc] at this); omega
  replace C_b := row_aside C_b (by decide) O_y hg
  replace C_u := row_aside C_u (by decide) O_y hg
  replace C_g := row_aside C_g (by decide) O_y hg
  replace O_g := own_aside2 (v := .slice ag xs.length cg) (base' := 0) (n' := 0) (e' := 0) (ys := []) O_g (fun q e => by have := L_y q e; omega) hg
  replace F_u := F_u.kept hg (fun g o e h0 heq => by have h1 := (O_y.lt g heq.symm).1; have h2 := L_u g o e h0; omega)
  replace hB := hB.grown hg hB.size (fun q hq => by have := (O_y.lt q hq).1; omega)
  clear O_y hg
  have O_y := om
  clear om
  clear hm2
  clear O_y
  obtain ⟨tg0, tg1⟩ := row2c C_g
  obtain ⟨tu0, tu1⟩ := row2c C_u
  go_wp2_with fail
  refine (hqe _ _ _ _ _ (own_Fs O_g) F_u).mono ?_
  rintro e w13 ⟨rfl, hb⟩
  have hz13 : w12.heap.size ≤ w13.heap.size := by have := hb.size; (try simp only [World.size_alloc] at this); omega
  clear tg0 tg1 tu0 tu1
  replace C_b := blkB2 hb C_b
  replace C_u := blkB2 hb C_u
  replace C_g := blkB2 hb C_g
  replace O_g := own_belowT O_g hb
  replace F_u := F_u.below hb
  replace hB := bt' hB hb
  clear hb
  have hm3 := fun (w' : World) (b : Nat) (h' : w'.ownsRow b 65 3 (.slice ag xs.length cg) xs.length (cellsF xs)) => markTable_any _ b _ _ _ mx w' h' (by omega)
  have hh := fun (w' : World) (h' : Fs w' ag xs.length cg (marks 1 xs.length)) => heldTable_any xs.length cg ag mx w' h' (by omega)
  obtain ⟨K, hK⟩ : ∃ K : Nat, 1 + 3 * xs.length = K := ⟨_, rfl⟩
  rw [hK] at hm3 hh
  have hdK : decide ((K : Int) < 0) = false := by rw [decide_eq_false_iff_not]; omega
  have hdK2 : ¬ (K : Int) < 0 := by omega
  clear hK
  obtain ⟨tg0, tg1⟩ := row2c C_g
  go_wp2_with fail
  refine (hm3 _ _ O_g).mono ?_
  rintro e w14 ⟨rfl, om, hg⟩
  have hz14 : w13.heap.size ≤ w14.heap.size := by have := hg.size; (try simp only [World.size_alloc] at this); omega
  clear tg0 tg1
  replace C_b := row_aside C_b (by decide) O_g hg
  replace C_u := row_aside C_u (by decide) O_g hg
  replace C_g := row_aside C_g (by decide) O_g hg
  replace F_u := F_u.kept hg (fun g o e h0 heq => by have h1 := (O_g.lt g heq.symm).1; have h2 := L_u g o e h0; omega)
  replace hB := hB.grown hg hB.size (fun q hq => by have := (O_g.lt q hq).1; omega)
  clear O_g hg
  have O_g := om
  clear om
  clear hm3
  obtain ⟨tg0, tg1⟩ := row2c C_g
  go_wp2_with fail
  refine (hh _ (own_Fs O_g)).mono ?_
  rintro e w15 ⟨rfl, hb⟩
  have hz15 : w14.heap.size ≤ w15.heap.size := by have := hb.size; (try simp only [World.size_alloc] at this); omega
  clear tg0 tg1
  replace C_b := blkB2 hb C_b
  replace C_u := blkB2 hb C_u
  replace C_g := blkB2 hb C_g
  replace O_g := own_belowT O_g hb
  replace F_u := F_u.below hb
  replace hB := bt' hB hb
  clear hb
  obtain ⟨tb0, tb1⟩ := row2c C_b
  go_wp2_with fail
  refine (hto _ (HA.out.below hB)).mono ?_
  rintro e w16 ⟨v, rfl, ho, hb⟩
  have hz16 : w15.heap.size ≤ w16.heap.size := by have := hb.size; (try simp only [World.size_alloc] at this); omega
  clear tb0 tb1
  replace C_b := blkB2 hb C_b
  replace C_u := blkB2 hb C_u
  replace C_g := blkB2 hb C_g
  replace O_g := own_belowT O_g hb
  replace F_u := F_u.below hb
  replace hB := bt' hB hb
  clear hb
  obtain ⟨ap, cp, rfl⟩ := own_formT ho
  have O_p := own_baseT ho (b' := w15.heap.size) (by (try simp only [World.size_alloc]); omega)
  have L_p : ∀ q, (Value.slice ap fs.length cp).ownBlock = some q → q < w16.heap.size := fun q e => (O_p.lt q e).2
  clear ho
  go_wp2_with fail
  refine (htf _ (HH.out.below hB)).mono ?_
  rintro e w17 ⟨v, rfl, ho, hb⟩
  have hz17 : w16.heap.size ≤ w17.heap.size := by have := hb.size; (try simp only [World.size_alloc] at this); omega
  replace C_b := blkB2 hb C_b
  replace C_u := blkB2 hb C_u
  replace C_g := blkB2 hb C_g
  replace O_g := own_belowT O_g hb
  replace O_p := own_belowT O_p hb
  replace F_u := F_u.below hb
  replace hB := bt' hB hb
  clear hb
  obtain ⟨aq, cq, rfl⟩ := own_formT ho
  have O_q := own_baseT ho (b' := w16.heap.size) (by (try simp only [World.size_alloc]); omega)
  have L_q : ∀ q, (Value.slice aq h.length cq).ownBlock = some q → q < w17.heap.size := fun q e => (O_q.lt q e).2
  clear ho
  go_wp2_with fail
  refine (him _ _ _ _ _ (own_Fs O_p) (own_Fs O_q)).mono ?_
  rintro e w18 ⟨v, rfl, ho, hb⟩
  have hz18 : w17.heap.size ≤ w18.heap.size := by have := hb.size; (try simp only [World.size_alloc] at this); omega
  replace C_b := blkB2 hb C_b
  replace C_u := blkB2 hb C_u
  replace C_g := blkB2 hb C_g
  replace O_g := own_belowT O_g hb
  replace O_p := own_belowT O_p hb
  replace O_q := own_belowT O_q hb
  replace F_u := F_u.below hb
  replace hB := bt' hB hb
  clear hb
  obtain ⟨ah, ch, rfl⟩ := own_formT ho
  have O_h := own_baseT ho (b' := w17.heap.size) (by (try simp only [World.size_alloc]); omega)
  have L_h : ∀ q, (Value.slice ah xs.length ch).ownBlock = some q → q < w18.heap.size := fun q e => (O_h.lt q e).2
  clear ho
  clear O_p
  clear O_q
  have hbA : Below w18.heap.size w18 (w18.alloc (.cells #[.slice ah xs.length ch, .int .i64 mx] 25)) := ((Below.refl _ _).alloc (Nat.le_refl _) _)
  replace C_b := blkB2 hbA C_b
  replace C_u := blkB2 hbA C_u
  replace C_g := blkB2 hbA C_g
  replace O_g := own_belowT O_g hbA
  replace O_h := own_belowT O_h hbA
  replace F_u := F_u.below hbA
  replace hB := bt' hB hbA
  clear hbA
  have C_h := heap_alloc_last w18 (.cells #[.slice ah xs.length ch, .int .i64 mx] 25)
  obtain ⟨th0, th1⟩ := row2c C_h
  obtain ⟨tu0, tu1⟩ := row2c C_u
  go_wp2_with fail
  refine (hqe _ _ _ _ _ (own_Fs O_h) F_u).mono ?_
  rintro e w19 ⟨rfl, hb⟩
  have hz19 : w18.heap.size ≤ w19.heap.size := by have := hb.size; (try simp only [World.size_alloc] at this); omega
  clear th0 th1 tu0 tu1
  replace C_b := blkB2 hb C_b
  replace C_u := blkB2 hb C_u
  replace C_g := blkB2 hb C_g
  replace C_h := blkB2 hb C_h
  replace O_g := own_belowT O_g hb
  replace O_h := own_belowT O_h hb
  replace F_u := F_u.below hb
  replace hB := bt' hB hb
  clear hb
  obtain ⟨tg0, tg1⟩ := row2c C_g
  go_wp2_with fail
  refine (hh _ (own_Fs O_g)).mono ?_
  rintro e w20 ⟨rfl, hb⟩
  have hz20 : w19.heap.size ≤ w20.heap.size := by have := hb.size; (try simp only [World.size_alloc] at this); omega
  clear tg0 tg1
  replace C_b := blkB2 hb C_b
  replace C_u := blkB2 hb C_u
  replace C_g := blkB2 hb C_g
  replace C_h := blkB2 hb C_h
  replace O_g := own_belowT O_g hb
  replace O_h := own_belowT O_h hb
  replace F_u := F_u.below hb
  replace hB := bt' hB hb
  clear hb
  go_wp2
  go_ret
  exact ⟨rfl, hB⟩
end Go.Proofs.Ytbhoafiolalgaab
