import Derived.Test.YtbhoafiolalgaabBT
import Derived.Test.YtbhoafiolalgaabHL0
import Derived.Test.YtbhoafiolalgaabHI7
import Derived.Test.YtbhoafiolalgaabHR5
import Derived.Test.YtbhoafiolalgaabHR2
import Derived.Deep.RegionHeld3
namespace Go.Proofs.Ytbhoafiolalgaab
open Go.RowKit
set_option linter.unusedVariables false

theorem own_apart {w w' : World} {base n : Nat} {e : TypeId} {v v' : Value} {xs : List Value} (h : w.ownsRow base e 3 v n xs) (hap : ∀ g, v'.ownBlock = some g → v.ownBlock ≠ some g) (hg : w.grownBy w' v'.ownBlock) : w'.ownsRow base e 3 v n xs := by
  cases hv : v.ownBlock with
  | none => exact h.kept hg (.inl hv)
  | some q => exact h.kept hg (.inr fun e1 => hap q (e1.symm.trans hv) hv)
theorem hRd_16 (fs : List Fd) (max : Int) (s : ByteArray) : (hRd fs max s).1.1.length ≤ 16 ∧ (hRd fs max s).2.1.length ≤ 6 := by
  rcases hRd_two fs max s with hr | ⟨gs, h, hr⟩
  · rw [hr]; exact ⟨by simp, by simp⟩
  · obtain ⟨_, _, _, _, k1, k2⟩ := hRd_ok hr
    rw [hr]; exact ⟨tOk_len k1, (hOk_parts k2).2⟩
set_option maxRecDepth 100000 in
set_option maxHeartbeats 20000000 in
theorem fnExactHeadRead_walk (fs : List Fd) (a : Option Addr) (n cap : Nat) (max : Int) (b : ByteArray) (w : World) (hA : FsA w a n cap fs) (hN : b.size ≤ maxLen) :
    Calls Try.prog 6 #[.agg #[.slice a n cap, .int .i64 max], .string b] w fun e w' => e = .returned (.bool true) ∧ Below w.heap.size w w' := by
  by_cases cn : (1048576 : Int) < b.size
  · clear hA
    go_enter Try.func6, Try.ntmps6
    go_wp2
    go_ret
    exact ⟨rfl, ((Below.refl _ _).alloc (Nat.le_refl _) _)⟩
  obtain rfl : fs.length = n := hA.len
  have hB0 : Below w.heap.size w (w.alloc (.cells #[.slice a fs.length cap, .int .i64 max] 40)) := ((Below.refl _ _).alloc (Nat.le_refl _) _)
  have C_b0 : Hid ((w.alloc (.cells #[.slice a fs.length cap, .int .i64 max] 40)).heap[w.heap.size]? = some (.cells #[.slice a fs.length cap, .int .i64 max] 40 (0, 0))) := heap_alloc_last w _
  have HA : Hid (FsA w a fs.length cap fs) := hA
  have hsz := szTable_any fs a fs.length cap max 1048576 _ (hA.below hB0) (by decide) (by decide)
  clear hA
  go_enter Try.func6, Try.ntmps6
  go_wp2_with fail
  refine hsz.mono ?_
  clear hsz
  rintro e w0 ⟨r, rfl, hr, hb⟩
  have hz0 : w.heap.size ≤ w0.heap.size := by have := hb.size; simp only [World.size_alloc] at this; omega
  have C_b := blkB2 hb C_b0.out
  have hB := bt' hB0 hb
  clear hB0 hb C_b0
  rcases hr with rfl | ⟨r0, r1, r2, hbd⟩
  · go_wp2
    go_ret
    exact ⟨rfl, hB⟩
  have hn : fs.length ≤ 1048576 := by omega
  have hd : decide (r < 0) = false := by rw [decide_eq_false_iff_not]; omega
  have hto := fun (w' : World) (h : FsA w' a fs.length cap fs) => toTable_any fs a fs.length cap max w' h hn
  unfold TabAns at hto
  simp only at hto
  have hsp := fun (w' : World) (x : Option Addr) (p : Nat) (h1 : Fs w' x fs.length p fs) => specHeadRead fs x _ p max b w' h1 hbd hn hN
  have him := fun (w' : World) (x : Option Addr) (p : Nat) (h1 : Fs w' x fs.length p fs) => implHeadRead fs x _ p max b w' h1 hbd hn hN
  have hxl := hRd_16 fs max b
  obtain ⟨⟨⟨xs, mx⟩, hs, ok⟩, hX⟩ : ∃ r, hRd fs max b = r := ⟨_, rfl⟩
  rw [hX] at hsp him hxl
  unfold HrAns at hsp
  unfold HrOwn at him
  dsimp only at hsp him hxl
  have hxn : xs.length ≤ 1048576 := by omega
  have hhn : hs.length ≤ 1048576 := by omega
  have hqe := fun (w' : World) (x y : Option Addr) (p q : Nat) (h1 : Fs w' x xs.length p xs) (h2 : Fs w' y xs.length q xs) => eqTable_same xs x y p q mx w' h1 h2 hxn
  have heq := fun (w' : World) (x y : Option Addr) (p q : Nat) (h1 : Fs w' x hs.length p hs) (h2 : Fs w' y hs.length q hs) => eqFieldS_any hs hs x y _ p _ q w' h1 h2 hhn hhn
  rw [eqFs_self] at heq
  clear hX hbd
  obtain ⟨tb0, tb1⟩ := row2c C_b
  go_wp2_with fail
  refine (hto _ (HA.out.below hB)).mono ?_
  rintro e w1 ⟨v, rfl, ho, hb⟩
  have hz1 : w0.heap.size ≤ w1.heap.size := by have := hb.size; (try simp only [World.size_alloc] at this); omega
  clear tb0 tb1
  replace C_b := blkB2 hb C_b
  replace hB := bt' hB hb
  clear hb
  obtain ⟨ap, cp, rfl⟩ := own_formT ho
  have O_p := own_baseT ho (b' := w0.heap.size) (by (try simp only [World.size_alloc]); omega)
  have L_p : ∀ q, (Value.slice ap fs.length cp).ownBlock = some q → q < w1.heap.size := fun q e => (O_p.lt q e).2
  clear ho
  go_wp2_with fail
  refine (hsp _ _ _ (own_Fs O_p)).mono ?_
  rintro e w2 ⟨au, nu, cu, ae, ne, ce, rfl, F_u, F_e, hb⟩
  have hz2 : w1.heap.size ≤ w2.heap.size := by have := hb.size; (try simp only [World.size_alloc] at this); omega
  replace C_b := blkB2 hb C_b
  replace O_p := own_belowT O_p hb
  replace hB := bt' hB hb
  clear hb
  obtain rfl := F_u.len
  obtain rfl := F_e.len
  have L_u : ∀ g x, au = some ⟨g, x, none⟩ → 0 < xs.length → g < w2.heap.size := F_u.lt2
  have L_e : ∀ g x, ae = some ⟨g, x, none⟩ → 0 < hs.length → g < w2.heap.size := F_e.lt2
  clear O_p
  have hbA : Below w2.heap.size w2 (w2.alloc (.cells #[.slice au xs.length cu, .int .i64 mx] 25)) := ((Below.refl _ _).alloc (Nat.le_refl _) _)
  replace C_b := blkB2 hbA C_b
  replace F_u := F_u.below hbA
  replace F_e := F_e.below hbA
  replace hB := bt' hB hbA
  clear hbA
  have C_u := heap_alloc_last w2 (.cells #[.slice au xs.length cu, .int .i64 mx] 25)
  obtain ⟨tb0, tb1⟩ := row2c C_b
  go_wp2_with fail
  refine (hto _ (HA.out.below hB)).mono ?_
  rintro e w3 ⟨v, rfl, ho, hb⟩
  have hz3 : w2.heap.size ≤ w3.heap.size := by have := hb.size; (try simp only [World.size_alloc] at this); omega
  clear tb0 tb1
  replace C_b := blkB2 hb C_b
  replace C_u := blkB2 hb C_u
  replace F_u := F_u.below hb
  replace F_e := F_e.below hb
  replace hB := bt' hB hb
  clear hb
  obtain ⟨ax, cx, rfl⟩ := own_formT ho
  have O_x := own_baseT ho (b' := w2.heap.size) (by (try simp only [World.size_alloc]); omega)
  have L_x : ∀ q, (Value.slice ax fs.length cx).ownBlock = some q → q < w3.heap.size := fun q e => (O_x.lt q e).2
  clear ho
  have hbA : Below w3.heap.size w3 (w3.alloc (.cells #[.slice ax fs.length cx, .int .i64 max] 25)) := ((Below.refl _ _).alloc (Nat.le_refl _) _)
  replace C_b := blkB2 hbA C_b
  replace C_u := blkB2 hbA C_u
  replace O_x := own_belowT O_x hbA
  replace F_u := F_u.below hbA
  replace F_e := F_e.below hbA
  replace hB := bt' hB hbA
  clear hbA
  have C_x := heap_alloc_last w3 (.cells #[.slice ax fs.length cx, .int .i64 max] 25)
  obtain ⟨tx0, tx1⟩ := row2c C_x
  go_wp2_with fail
  refine (him _ _ _ (own_Fs O_x)).mono ?_
  rintro e w4 ⟨v, v2, rfl, ho, ho2, hap, hb⟩
  have hz4 : w3.heap.size ≤ w4.heap.size := by have := hb.size; (try simp only [World.size_alloc] at this); omega
  clear tx0 tx1
  replace C_b := blkB2 hb C_b
  replace C_u := blkB2 hb C_u
  replace C_x := blkB2 hb C_x
  replace O_x := own_belowT O_x hb
  replace F_u := F_u.below hb
  replace F_e := F_e.below hb
  replace hB := bt' hB hb
  clear hb
  obtain ⟨ag, cg, rfl⟩ := own_formT ho
  have O_g := own_baseT ho (b' := w3.heap.size) (by (try simp only [World.size_alloc]); omega)
  have L_g : ∀ q, (Value.slice ag xs.length cg).ownBlock = some q → q < w4.heap.size := fun q e => (O_g.lt q e).2
  clear ho
  obtain ⟨ak, ck, rfl⟩ := own_formT ho2
  have O_k := own_baseT ho2 (b' := w3.heap.size) (by (try simp only [World.size_alloc]); omega)
  have L_k : ∀ q, (Value.slice ak hs.length ck).ownBlock = some q → q < w4.heap.size := fun q e => (O_k.lt q e).2
  clear ho2
  have hbA : Below w4.heap.size w4 (w4.alloc (.cells #[.slice ag xs.length cg, .int .i64 mx] 25)) := ((Below.refl _ _).alloc (Nat.le_refl _) _)
  replace C_b := blkB2 hbA C_b
  replace C_u := blkB2 hbA C_u
  replace C_x := blkB2 hbA C_x
  replace O_x := own_belowT O_x hbA
  replace O_g := own_belowT O_g hbA
  replace O_k := own_belowT O_k hbA
  replace F_u := F_u.below hbA
  replace F_e := F_e.below hbA
  replace hB := bt' hB hbA
  clear hbA
  have C_g := heap_alloc_last w4 (.cells #[.slice ag xs.length cg, .int .i64 mx] 25)
  have AP := hap
  clear hap
  obtain ⟨tg0, tg1⟩ := row2c C_g
  obtain ⟨tu0, tu1⟩ := row2c C_u
  go_wp2_with fail
  refine (hqe _ _ _ _ _ (own_Fs O_g) F_u).mono ?_
  rintro e w5 ⟨rfl, hb⟩
  have hz5 : w4.heap.size ≤ w5.heap.size := by have := hb.size; (try simp only [World.size_alloc] at this); omega
  clear tg0 tg1 tu0 tu1
  replace C_b := blkB2 hb C_b
  replace C_u := blkB2 hb C_u
  replace C_x := blkB2 hb C_x
  replace C_g := blkB2 hb C_g
  replace O_x := own_belowT O_x hb
  replace O_g := own_belowT O_g hb
  replace O_k := own_belowT O_k hb
  replace F_u := F_u.below hb
  replace F_e := F_e.below hb
  replace hB := bt' hB hb
  clear hb
  go_wp2_with fail
  refine (heq _ _ _ _ _ (own_Fs O_k) F_e).mono ?_
  rintro e w6 ⟨rfl, hb⟩
  have hz6 : w5.heap.size ≤ w6.heap.size := by have := hb.size; (try simp only [World.size_alloc] at this); omega
  replace C_b := blkB2 hb C_b
  replace C_u := blkB2 hb C_u
  replace C_x := blkB2 hb C_x
  replace C_g := blkB2 hb C_g
  replace O_x := own_belowT O_x hb
  replace O_g := own_belowT O_g hb
  replace O_k := own_belowT O_k hb
  replace F_u := F_u.below hb
  replace F_e := F_e.below hb
  replace hB := bt' hB hb
  clear hb
  go_upto_region 12 with fail
  have hmx : Try.prog.follows .mixedOrders = true := by kernel_rfl
  obtain ⟨p0, p1⟩ := row2c C_x
  obtain ⟨p2, p3⟩ := row2c C_b
  have hkeepV : ∀ w1 w2 : World, Below w1.heap.size w1 w2 → (w1.cell? ⟨w3.heap.size, 0, none⟩ = some (.slice ax fs.length cx) ∧ w1.cell? ⟨w3.heap.size, 1, none⟩ = some (.int .i64 max) ∧ w1.cell? ⟨w.heap.size, 0, none⟩ = some (.slice a fs.length cap) ∧ w1.cell? ⟨w.heap.size, 1, none⟩ = some (.int .i64 max) ∧ Below w6.heap.size w6 w1) → (w2.cell? ⟨w3.heap.size, 0, none⟩ = some (.slice ax fs.length cx) ∧ w2.cell? ⟨w3.heap.size, 1, none⟩ = some (.int .i64 max) ∧ w2.cell? ⟨w.heap.size, 0, none⟩ = some (.slice a fs.length cap) ∧ w2.cell? ⟨w.heap.size, 1, none⟩ = some (.int .i64 max) ∧ Below w6.heap.size w6 w2) := by
    rintro w1 w2 hb ⟨h0, h1, h2, h3, hB⟩
    exact ⟨keepc hb h0, keepc hb h1, keepc hb h2, keepc hb h3, bt' hB hb⟩
  have hBelV : ∀ w' : World, (w'.cell? ⟨w3.heap.size, 0, none⟩ = some (.slice ax fs.length cx) ∧ w'.cell? ⟨w3.heap.size, 1, none⟩ = some (.int .i64 max) ∧ w'.cell? ⟨w.heap.size, 0, none⟩ = some (.slice a fs.length cap) ∧ w'.cell? ⟨w.heap.size, 1, none⟩ = some (.int .i64 max) ∧ Below w6.heap.size w6 w') → Below w6.heap.size w6 w' := fun w' h => h.2.2.2.2
  have hV0 : w6.cell? ⟨w3.heap.size, 0, none⟩ = some (.slice ax fs.length cx) ∧ w6.cell? ⟨w3.heap.size, 1, none⟩ = some (.int .i64 max) ∧ w6.cell? ⟨w.heap.size, 0, none⟩ = some (.slice a fs.length cap) ∧ w6.cell? ⟨w.heap.size, 1, none⟩ = some (.int .i64 max) ∧ Below w6.heap.size w6 w6 := ⟨p0, p1, p2, p3, Below.refl _ _⟩
  have HAV : Hid (FsA w6 a fs.length cap fs) := HA.out.below hB
  have hFV : Hid (Fs w6 ax fs.length cx fs) := own_Fs O_x
  have hto3 := hto
  clear p0 p1 p2 p3
  go_region_held3 (fun w' => w'.cell? ⟨w3.heap.size, 0, none⟩ = some (.slice ax fs.length cx) ∧ w'.cell? ⟨w3.heap.size, 1, none⟩ = some (.int .i64 max) ∧ w'.cell? ⟨w.heap.size, 0, none⟩ = some (.slice a fs.length cap) ∧ w'.cell? ⟨w.heap.size, 1, none⟩ = some (.int .i64 max) ∧ Below w6.heap.size w6 w') (first | assumption | exact hkeepV _ _ ((Below.refl _ _).drew) hV0 | exact hkeepV _ _ hbN (by assumption)) ((first | (go_at_call 21; refine (hto3 _ (HAV.out.below (hBelV _ (by assumption)))).mono ?_; clear hto3; rintro e wN ⟨vN, rfl, hownN, hbN⟩; obtain ⟨aN, cN, rfl⟩ := own_formT hownN; have hFN := own_Fs hownN; clear hownN) | (go_at_call 23; refine (eqTable_same fs ax aN cx cN max _ (hFV.out.below (hBelV _ (by assumption))) hFN hn).mono ?_; clear hFN; rintro e wN ⟨rfl, hbN⟩)))
  have hV1 : wN.cell? ⟨w3.heap.size, 0, none⟩ = some (.slice ax fs.length cx) ∧ wN.cell? ⟨w3.heap.size, 1, none⟩ = some (.int .i64 max) ∧ wN.cell? ⟨w.heap.size, 0, none⟩ = some (.slice a fs.length cap) ∧ wN.cell? ⟨w.heap.size, 1, none⟩ = some (.int .i64 max) ∧ Below w6.heap.size w6 wN := by first | assumption | exact hkeepV _ _ hbN (by assumption)
  have hb := hBelV _ hV1
  have hzN : w6.heap.size ≤ wN.heap.size := hb.size
  replace C_b := blkB2 hb C_b
  replace C_u := blkB2 hb C_u
  replace C_x := blkB2 hb C_x
  replace C_g := blkB2 hb C_g
  replace O_x := own_belowT O_x hb
  replace O_g := own_belowT O_g hb
  replace O_k := own_belowT O_k hb
  replace F_u := F_u.below hb
  replace F_e := F_e.below hb
  replace hB := bt' hB hb
  clear hb hV0 hV1 hkeepV hBelV HAV hFV
  have hm1 := fun (w' : World) (b : Nat) (h' : w'.ownsRow b 65 3 (.slice ax fs.length cx) fs.length (cellsF fs)) => markTable_any _ b _ _ _ max w' h' (by omega)
  obtain ⟨K1, hK1⟩ : ∃ K : Nat, 1 + 3 * fs.length = K := ⟨_, rfl⟩
  rw [hK1] at hm1
  have hdk : decide ((K1 : Int) < 0) = false := by rw [decide_eq_false_iff_not]; omega
  have hdk2 : ¬ (K1 : Int) < 0 := by omega
  clear hK1
  obtain ⟨tx0, tx1⟩ := row2c C_x
  go_wp2_with fail
  refine (hm1 _ _ O_x).mono ?_
  rintro e w7 ⟨rfl, om, hg⟩
  have hz7 : wN.heap.size ≤ w7.heap.size := by have := hg.size; (try simp only [World.size_alloc] at this); omega
  clear tx0 tx1
  replace C_b := row_aside C_b (by decide) O_x hg
  replace C_u := row_aside C_u (by decide) O_x hg
  replace C_x := row_aside C_x (by decide) O_x hg
  replace C_g := row_aside C_g (by decide) O_x hg
  replace O_g := own_aside2 (v := .slice ag xs.length cg) (base' := 0) (n' := 0) (e' := 0) (ys := []) O_g (fun q e => by have := L_x q e; omega) hg
  replace O_k := own_aside2 (v := .slice ak hs.length ck) (base' := 0) (n' := 0) (e' := 0) (ys := []) O_k (fun q e => by have := L_x q e; omega) hg
  replace F_u := F_u.kept hg (fun g o e h0 heq => by have h1 := (O_x.lt g heq.symm).1; have h2 := L_u g o e h0; omega)
  replace F_e := F_e.kept hg (fun g o e h0 heq => by have h1 := (O_x.lt g heq.symm).1; have h2 := L_e g o e h0; omega)
  replace hB := hB.grown hg hB.size (fun q hq => by have := (O_x.lt q hq).1; omega)
  clear O_x hg
  have O_x := om
  clear om
  clear hm1
  clear C_x
  clear O_x
  obtain ⟨tg0, tg1⟩ := row2c C_g
  obtain ⟨tu0, tu1⟩ := row2c C_u
  go_wp2_with fail
  refine (hqe _ _ _ _ _ (own_Fs O_g) F_u).mono ?_
  rintro e w8 ⟨rfl, hb⟩
  have hz8 : w7.heap.size ≤ w8.heap.size := by have := hb.size; (try simp only [World.size_alloc] at this); omega
  clear tg0 tg1 tu0 tu1
  replace C_b := blkB2 hb C_b
  replace C_u := blkB2 hb C_u
  replace C_g := blkB2 hb C_g
  replace O_g := own_belowT O_g hb
  replace O_k := own_belowT O_k hb
  replace F_u := F_u.below hb
  replace F_e := F_e.below hb
  replace hB := bt' hB hb
  clear hb
  go_wp2_with fail
  refine (heq _ _ _ _ _ (own_Fs O_k) F_e).mono ?_
  rintro e w9 ⟨rfl, hb⟩
  have hz9 : w8.heap.size ≤ w9.heap.size := by have := hb.size; (try simp only [World.size_alloc] at this); omega
  replace C_b := blkB2 hb C_b
  replace C_u := blkB2 hb C_u
  replace C_g := blkB2 hb C_g
  replace O_g := own_belowT O_g hb
  replace O_k := own_belowT O_k hb
  replace F_u := F_u.below hb
  replace F_e := F_e.below hb
  replace hB := bt' hB hb
  clear hb
  have hm3 := fun (w' : World) (b : Nat) (h' : w'.ownsRow b 65 3 (.slice ag xs.length cg) xs.length (cellsF xs)) => markTable_any _ b _ _ _ mx w' h' (by omega)
  have hm4 := fun (w' : World) (b : Nat) (h' : w'.ownsRow b 65 3 (.slice ak hs.length ck) hs.length (cellsF hs)) => markFieldS_any _ b _ _ (1 + 3 * xs.length) _ w' h' (by omega) (by omega) (by omega)
  have hh := fun (w' : World) (h' : Fs w' ag xs.length cg (marks 1 xs.length)) => heldTable_any xs.length cg ag mx w' h' (by omega)
  have hk := fun (w' : World) (h' : Fs w' ak hs.length ck (marks (1 + 3 * xs.length) hs.length)) => heldFieldS_any hs.length ck (1 + 3 * xs.length) ak w' h' (by omega) (by omega) (by omega)
  obtain ⟨M, hM⟩ : ∃ K : Nat, 1 + 3 * xs.length + 3 * hs.length = K := ⟨_, rfl⟩
  rw [hM] at hm4 hk
  obtain ⟨K, hK⟩ : ∃ K : Nat, 1 + 3 * xs.length = K := ⟨_, rfl⟩
  rw [hK] at hm3 hh hm4 hk
  have hdK : decide ((K : Int) < 0) = false := by rw [decide_eq_false_iff_not]; omega
  have hdK2 : ¬ (K : Int) < 0 := by omega
  have hdM : decide ((M : Int) < 0) = false := by rw [decide_eq_false_iff_not]; omega
  have hdM2 : ¬ (M : Int) < 0 := by omega
  clear hK hM
  obtain ⟨tg0, tg1⟩ := row2c C_g
  go_wp2_with fail
  refine (hm3 _ _ O_g).mono ?_
  rintro e w10 ⟨rfl, om, hg⟩
  have hz10 : w9.heap.size ≤ w10.heap.size := by have := hg.size; (try simp only [World.size_alloc] at this); omega
  clear tg0 tg1
  replace C_b := row_aside C_b (by decide) O_g hg
  replace C_u := row_aside C_u (by decide) O_g hg
  replace C_g := row_aside C_g (by decide) O_g hg
  replace O_k := own_apart O_k AP hg
  replace F_u := F_u.kept hg (fun g o e h0 heq => by have h1 := (O_g.lt g heq.symm).1; have h2 := L_u g o e h0; omega)
  replace F_e := F_e.kept hg (fun g o e h0 heq => by have h1 := (O_g.lt g heq.symm).1; have h2 := L_e g o e h0; omega)
  replace hB := hB.grown hg hB.size (fun q hq => by have := (O_g.lt q hq).1; omega)
  clear O_g hg
  have O_g := om
  clear om
  clear hm3
  go_wp2_with fail
  refine (hm4 _ _ O_k).mono ?_
  rintro e w11 ⟨rfl, om, hg⟩
  have hz11 : w10.heap.size ≤ w11.heap.size := by have := hg.size; (try simp only [World.size_alloc] at this); omega
  replace C_b := row_aside C_b (by decide) O_k hg
  replace C_u := row_aside C_u (by decide) O_k hg
  replace C_g := row_aside C_g (by decide) O_k hg
  replace O_g := own_apart O_g (fun g e1 e2 => AP g e2 e1) hg
  replace F_u := F_u.kept hg (fun g o e h0 heq => by have h1 := (O_k.lt g heq.symm).1; have h2 := L_u g o e h0; omega)
  replace F_e := F_e.kept hg (fun g o e h0 heq => by have h1 := (O_k.lt g heq.symm).1; have h2 := L_e g o e h0; omega)
  replace hB := hB.grown hg hB.size (fun q hq => by have := (O_k.lt q hq).1; omega)
  clear O_k hg
  have O_k := om
  clear om
  clear hm4
  obtain ⟨tg0, tg1⟩ := row2c C_g
  go_wp2_with fail
  refine (hh _ (own_Fs O_g)).mono ?_
  rintro e w12 ⟨rfl, hb⟩
  have hz12 : w11.heap.size ≤ w12.heap.size := by have := hb.size; (try simp only [World.size_alloc] at this); omega
  clear tg0 tg1
  replace C_b := blkB2 hb C_b
  replace C_u := blkB2 hb C_u
  replace C_g := blkB2 hb C_g
  replace O_g := own_belowT O_g hb
  replace O_k := own_belowT O_k hb
  replace F_u := F_u.below hb
  replace F_e := F_e.below hb
  replace hB := bt' hB hb
  clear hb
  go_wp2_with fail
  refine (hk _ (own_Fs O_k)).mono ?_
  rintro e w13 ⟨rfl, hb⟩
  have hz13 : w12.heap.size ≤ w13.heap.size := by have := hb.size; (try simp only [World.size_alloc] at this); omega
  replace C_b := blkB2 hb C_b
  replace C_u := blkB2 hb C_u
  replace C_g := blkB2 hb C_g
  replace O_g := own_belowT O_g hb
  replace O_k := own_belowT O_k hb
  replace F_u := F_u.below hb
  replace F_e := F_e.below hb
  replace hB := bt' hB hb
  clear hb
  obtain ⟨tb0, tb1⟩ := row2c C_b
  go_wp2_with fail
  refine (hto _ (HA.out.below hB)).mono ?_
  rintro e w14 ⟨v, rfl, ho, hb⟩
  have hz14 : w13.heap.size ≤ w14.heap.size := by have := hb.size; (try simp only [World.size_alloc] at this); omega
  clear tb0 tb1
  replace C_b := blkB2 hb C_b
  replace C_u := blkB2 hb C_u
  replace C_g := blkB2 hb C_g
  replace O_g := own_belowT O_g hb
  replace O_k := own_belowT O_k hb
  replace F_u := F_u.below hb
  replace F_e := F_e.below hb
  replace hB := bt' hB hb
  clear hb
  obtain ⟨ap, cp, rfl⟩ := own_formT ho
  have O_p := own_baseT ho (b' := w13.heap.size) (by (try simp only [World.size_alloc]); omega)
  have L_p : ∀ q, (Value.slice ap fs.length cp).ownBlock = some q → q < w14.heap.size := fun q e => (O_p.lt q e).2
  clear ho
  go_wp2_with fail
  refine (him _ _ _ (own_Fs O_p)).mono ?_
  rintro e w15 ⟨v, v2, rfl, ho, ho2, hap, hb⟩
  have hz15 : w14.heap.size ≤ w15.heap.size := by have := hb.size; (try simp only [World.size_alloc] at this); omega
  replace C_b := blkB2 hb C_b
  replace C_u := blkB2 hb C_u
  replace C_g := blkB2 hb C_g
  replace O_g := own_belowT O_g hb
  replace O_k := own_belowT O_k hb
  replace O_p := own_belowT O_p hb
  replace F_u := F_u.below hb
  replace F_e := F_e.below hb
  replace hB := bt' hB hb
  clear hb
  obtain ⟨ah, ch, rfl⟩ := own_formT ho
  have O_h := own_baseT ho (b' := w14.heap.size) (by (try simp only [World.size_alloc]); omega)
  have L_h : ∀ q, (Value.slice ah xs.length ch).ownBlock = some q → q < w15.heap.size := fun q e => (O_h.lt q e).2
  clear ho
  obtain ⟨al, cl, rfl⟩ := own_formT ho2
  have O_l := own_baseT ho2 (b' := w14.heap.size) (by (try simp only [World.size_alloc]); omega)
  have L_l : ∀ q, (Value.slice al hs.length cl).ownBlock = some q → q < w15.heap.size := fun q e => (O_l.lt q e).2
  clear ho2
  have hbA : Below w15.heap.size w15 (w15.alloc (.cells #[.slice ah xs.length ch, .int .i64 mx] 25)) := ((Below.refl _ _).alloc (Nat.le_refl _) _)
  replace C_b := blkB2 hbA C_b
  replace C_u := blkB2 hbA C_u
  replace C_g := blkB2 hbA C_g
  replace O_g := own_belowT O_g hbA
  replace O_k := own_belowT O_k hbA
  replace O_p := own_belowT O_p hbA
  replace O_h := own_belowT O_h hbA
  replace O_l := own_belowT O_l hbA
  replace F_u := F_u.below hbA
  replace F_e := F_e.below hbA
  replace hB := bt' hB hbA
  clear hbA
  have C_h := heap_alloc_last w15 (.cells #[.slice ah xs.length ch, .int .i64 mx] 25)
  clear O_p
  obtain ⟨th0, th1⟩ := row2c C_h
  obtain ⟨tu0, tu1⟩ := row2c C_u
  go_wp2_with fail
  refine (hqe _ _ _ _ _ (own_Fs O_h) F_u).mono ?_
  rintro e w16 ⟨rfl, hb⟩
  have hz16 : w15.heap.size ≤ w16.heap.size := by have := hb.size; (try simp only [World.size_alloc] at this); omega
  clear th0 th1 tu0 tu1
  replace C_b := blkB2 hb C_b
  replace C_u := blkB2 hb C_u
  replace C_g := blkB2 hb C_g
  replace C_h := blkB2 hb C_h
  replace O_g := own_belowT O_g hb
  replace O_k := own_belowT O_k hb
  replace O_h := own_belowT O_h hb
  replace O_l := own_belowT O_l hb
  replace F_u := F_u.below hb
  replace F_e := F_e.below hb
  replace hB := bt' hB hb
  clear hb
  go_wp2_with fail
  refine (heq _ _ _ _ _ (own_Fs O_l) F_e).mono ?_
  rintro e w17 ⟨rfl, hb⟩
  have hz17 : w16.heap.size ≤ w17.heap.size := by have := hb.size; (try simp only [World.size_alloc] at this); omega
  replace C_b := blkB2 hb C_b
  replace C_u := blkB2 hb C_u
  replace C_g := blkB2 hb C_g
  replace C_h := blkB2 hb C_h
  replace O_g := own_belowT O_g hb
  replace O_k := own_belowT O_k hb
  replace O_h := own_belowT O_h hb
  replace O_l := own_belowT O_l hb
  replace F_u := F_u.below hb
  replace F_e := F_e.below hb
  replace hB := bt' hB hb
  clear hb
  obtain ⟨tg0, tg1⟩ := row2c C_g
  go_wp2_with fail
  refine (hh _ (own_Fs O_g)).mono ?_
  rintro e w18 ⟨rfl, hb⟩
  have hz18 : w17.heap.size ≤ w18.heap.size := by have := hb.size; (try simp only [World.size_alloc] at this); omega
  clear tg0 tg1
  replace C_b := blkB2 hb C_b
  replace C_u := blkB2 hb C_u
  replace C_g := blkB2 hb C_g
  replace C_h := blkB2 hb C_h
  replace O_g := own_belowT O_g hb
  replace O_k := own_belowT O_k hb
  replace O_h := own_belowT O_h hb
  replace O_l := own_belowT O_l hb
  replace F_u := F_u.below hb
  replace F_e := F_e.below hb
  replace hB := bt' hB hb
  clear hb
  go_wp2_with fail
  refine (hk _ (own_Fs O_k)).mono ?_
  rintro e w19 ⟨rfl, hb⟩
  have hz19 : w18.heap.size ≤ w19.heap.size := by have := hb.size; (try simp only [World.size_alloc] at this); omega
  replace C_b := blkB2 hb C_b
  replace C_u := blkB2 hb C_u
  replace C_g := blkB2 hb C_g
  replace C_h := blkB2 hb C_h
  replace O_g := own_belowT O_g hb
  replace O_k := own_belowT O_k hb
  replace O_h := own_belowT O_h hb
  replace O_l := own_belowT O_l hb
  replace F_u := F_u.below hb
  replace F_e := F_e.below hb
  replace hB := bt' hB hb
  clear hb
  go_wp2
  go_ret
  exact ⟨rfl, hB⟩
end Go.Proofs.Ytbhoafiolalgaab
