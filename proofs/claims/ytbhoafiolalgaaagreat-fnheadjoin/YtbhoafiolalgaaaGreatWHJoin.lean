import Derived.Test.YtbhoafiolalgaaaGreatHL0
import Derived.Test.YtbhoafiolalgaaaGreatHI7
import Derived.Test.YtbhoafiolalgaaaGreatHI4
import Derived.Test.YtbhoafiolalgaaaGreatHD4
import Derived.Test.YtbhoafiolalgaaaGreatHR5
import Derived.Test.YtbhoafiolalgaaaGreatHM3
import Derived.Test.YtbhoafiolalgaaaGreatHC0
import Derived.Deep.RegionHeld3
import Derived.Maps.RangeWalk
import Derived.Test.YtbhoafiolalgaaaGreatHD2
namespace Go.Proofs.YtbhoafiolalgaaaGreat
open Go.RowKit
set_option linter.unusedVariables false

theorem wpList_appFsG {ops : Array Oper} {rest : List Oper} {o : Oper} {act : Act} {Q : Exit → Act → World → Prop} (w : World) (hgd : Region.wanted o (yielded ops act.tmps) = true) (s x : Operand)
    (ho : o.op = .call { callee := .builtin .append, args := #[s, x], argTypes := #[23, 23] })
    (base : Nat) (v : Value) (k : Nat) (xs : List Value) (hs : act.eval s = v) (hown : w.ownsRow base 52 3 v k xs) (a : Option Addr) (n cap : Nat) (fs : List Fd) (hx : act.eval x = .slice a n cap) (hf : Fs w a n cap fs)
    (hk : k + n ≤ 3000000) (hb : base ≤ w.heap.size)
    (h : ∀ v' w', w'.ownsRow base 52 3 v' (k + n) (xs ++ cellsF fs) → w.grownBy w' v.ownBlock → wpList Tryz.prog ops Q rest (act.put o.dst v') w') : wpList Tryz.prog ops Q (o :: rest) act w := by
  obtain ⟨ii, hi, hz0, hz1, hz2⟩ := info_parts infoF
  refine wpList_step fun K hK => ?_
  rw [if_pos hgd]
  rcases hf.form with ⟨rfl, rfl, rfl⟩ | ⟨g, of, rfl⟩
  · have hfs : fs = [] := List.eq_nil_of_length_eq_zero hf.len
    subst hfs
    have hrun := run_append_owned_none (P := Tryz.prog) (w := w) base 23 o.type 52 ii 3 Tryz.underlying23 hi v k xs hown
    unfold Oper.wp
    simp [execOp, ho, resolve, invoke, builtin, hs, hx, hrun, Result.andThen]
    exact hK _ _ (h v w (by simpa [cellsF] using hown) ⟨rfl, rfl, rfl, Nat.le_refl _, fun _ _ _ => rfl⟩)
  · refine wp_append_own w s x 23 ho base 52 ii (.agg #[.string ⟨#[]⟩, .string ⟨#[]⟩, .bool false]) 3 40 Tryz.underlying23 hi hz0 hz1 hz2 rfl (by decide) v k xs hs hown ⟨g, of, none⟩ n cap (cellsF fs) hx (by rw [cellsF_length, hf.len]) ?_ (cellsF_one fs) (by unfold maxLen; omega) (by omega) hb (fun v' w' h1 h2 _ => hK _ _ (h v' w' h1 h2))
    intro j u hu
    have := hf.cells g of rfl j u hu
    rw [Addr.add_lit]
    exact this
set_option maxRecDepth 100000 in
set_option maxHeartbeats 20000000 in
theorem fnHeadJoin_walk (a0 : Option Addr) (len0 cap0 : Nat) (z0 : List Int) (a1 : Option Addr) (len1 cap1 : Nat) (z1 : List Int) (w : World) (w0 : Row w a0 len0 cap0 z0) (w1 : Row w a1 len1 cap1 z1) :
    Calls Tryz.prog 3 #[.slice a0 len0 cap0, .slice a1 len1 cap1] w fun e w' => e = .returned (.bool true) ∧ Below w.heap.size w w' := by
  by_cases c0 : (1048576 : Int) < len0
  · clear w0 w1
    go_enter Tryz.func3, Tryz.ntmps3
    go_wp2
    go_ret
    exact ⟨rfl, Below.refl _ _⟩
  by_cases c1 : (1048576 : Int) < len1
  · clear w0 w1
    go_enter Tryz.func3, Tryz.ntmps3
    go_wp2
    go_ret
    exact ⟨rfl, Below.refl _ _⟩
  have R0 : Hid (Row w a0 len0 cap0 z0) := w0
  have R1 : Hid (Row w a1 len1 cap1 z1) := w1
  clear w0 w1
  go_enter Tryz.func3, Tryz.ntmps3
  go_wp2_with fail
  refine (drawHeadRead _ _ _ _ _ R0.out).mono ?_
  rintro e w1 ⟨fs, max, a', c', bb, rfl, hbz, ⟨lF, sF, F_t⟩, hB1⟩
  have DS : Hid (fsSm fs) := sF
  clear sF R0
  have hbA : Below w1.heap.size w1 (w1.alloc (.cells #[.slice a' fs.length c', .int .i64 max] 25)) := (Below.refl _ _).alloc (Nat.le_refl _) _
  replace F_t := F_t.below hbA
  have hBn := bt' hB1 hbA
  clear hB1
  have hB1 := hBn
  clear hBn
  clear hbA
  have C_t : (w1.alloc (.cells #[.slice a' fs.length c', .int .i64 max] 25)).heap[w1.heap.size]? = some (.cells #[.slice a' fs.length c', .int .i64 max] 25 (0, 0)) := heap_alloc_last w1 _
  (try clear T_t0 T_t1)
  obtain ⟨T_t0, T_t1⟩ := row2c C_t
  have hSR := fun (w' : World) (h1 : Fs w' a' fs.length c' fs) => specHeadRead fs a' _ c' max bb w' h1 DS.out.bd (by omega) (by unfold maxLen; omega)
  have hIR := fun (w' : World) (h1 : Fs w' a' fs.length c' fs) => implHeadRead fs a' _ c' max bb w' h1 DS.out.bd (by omega) (by unfold maxLen; omega)
  rcases hRd_two fs max bb with hr | ⟨gs, h, hr⟩
  · rw [hr] at hSR hIR
    unfold HrAns at hSR
    unfold HrOwn at hIR
    dsimp only at hSR hIR
    have hL1 := fun (w' : World) (x y : Option Addr) (p q : Nat) (h1 : Fs w' x ([] : List Fd).length p ([] : List Fd)) (h2 : Fs w' y ([] : List Fd).length q ([] : List Fd)) => lkFields_same ([] : List Fd) x y p q w' h1 h2 (by decide)
    have hL2 := fun (w' : World) (x y : Option Addr) (p q : Nat) (h1 : Fs w' x ([] : List Fd).length p ([] : List Fd)) (h2 : Fs w' y ([] : List Fd).length q ([] : List Fd)) => lkTable_same ([] : List Fd) x y p q 0 w' h1 h2 (by decide)
    have hL3 := fun (w' : World) (x y : Option Addr) (p q : Nat) (h1 : Fs w' x ([] : List Fd).length p ([] : List Fd)) (h2 : Fs w' y ([] : List Fd).length q ([] : List Fd)) => lkFields_same ([] : List Fd) x y p q w' h1 h2 (by decide)
    have hL4 := fun (w' : World) (x y : Option Addr) (p q : Nat) (h1 : Fs w' x ([] : List Fd).length p ([] : List Fd)) (h2 : Fs w' y ([] : List Fd).length q ([] : List Fd)) => lkTable_same ([] : List Fd) x y p q 0 w' h1 h2 (by decide)
    simp only [List.length_nil] at hIR hL1 hL2 hL3 hL4
    clear hr R1
    go_wp2_with (first | (go_at_call 5; refine (hSR _ F_t).mono ?_; clear hSR; rintro e w2 ⟨a2, n2, c2, b2, m2, d2, rfl, F_y, F_u, hbx⟩; replace F_t := F_t.below hbx; replace C_t := blkB hbx C_t; have hBn := bt' hB1 hbx; clear hB1; have hB1 := hBn; clear hBn; clear hbx; obtain rfl : n2 = 0 := F_y.len.symm; obtain rfl : m2 = 0 := F_u.len.symm; have hbA : Below w2.heap.size w2 (w2.alloc (.cells #[.slice a2 0 c2, .int .i64 0] 25)) := (Below.refl _ _).alloc (Nat.le_refl _) _; replace F_t := F_t.below hbA; replace F_y := F_y.below hbA; replace F_u := F_u.below hbA; replace C_t := blkB hbA C_t; have hBn := bt' hB1 hbA; clear hB1; have hB1 := hBn; clear hBn; clear hbA; have C_y : (w2.alloc (.cells #[.slice a2 0 c2, .int .i64 0] 25)).heap[w2.heap.size]? = some (.cells #[.slice a2 0 c2, .int .i64 0] 25 (0, 0)) := heap_alloc_last w2 _; (try clear T_t0 T_t1); (try clear T_y0 T_y1); obtain ⟨T_t0, T_t1⟩ := row2c C_t; obtain ⟨T_y0, T_y1⟩ := row2c C_y; skip) | (go_at_call 6; refine (hIR _ F_t).mono ?_; clear hIR; rintro e w3 ⟨v3, u3, rfl, hown, hownu, _, hbx⟩; replace F_t := F_t.below hbx; replace F_y := F_y.below hbx; replace F_u := F_u.below hbx; replace C_t := blkB hbx C_t; replace C_y := blkB hbx C_y; have hBn := bt' hB1 hbx; clear hB1; have hB1 := hBn; clear hBn; clear hbx; obtain ⟨a3, c3, rfl⟩ := own_formT hown; have F_x := own_Fs hown; obtain ⟨b3, d3, rfl⟩ := own_formT hownu; have F_h := own_Fs hownu; clear hown hownu; have hbA : Below w3.heap.size w3 (w3.alloc (.cells #[.slice a3 0 c3, .int .i64 0] 25)) := (Below.refl _ _).alloc (Nat.le_refl _) _; replace F_t := F_t.below hbA; replace F_y := F_y.below hbA; replace F_u := F_u.below hbA; replace F_x := F_x.below hbA; replace F_h := F_h.below hbA; replace C_t := blkB hbA C_t; replace C_y := blkB hbA C_y; have hBn := bt' hB1 hbA; clear hB1; have hB1 := hBn; clear hBn; clear hbA; have C_x : (w3.alloc (.cells #[.slice a3 0 c3, .int .i64 0] 25)).heap[w3.heap.size]? = some (.cells #[.slice a3 0 c3, .int .i64 0] 25 (0, 0)) := heap_alloc_last w3 _; (try clear T_t0 T_t1); (try clear T_y0 T_y1); (try clear T_x0 T_x1); obtain ⟨T_t0, T_t1⟩ := row2c C_t; obtain ⟨T_y0, T_y1⟩ := row2c C_y; obtain ⟨T_x0, T_x1⟩ := row2c C_x; skip) | (go_at_call 7; refine (hL1 _ _ _ _ _ F_h F_u).mono ?_; clear hL1; rintro e w4 ⟨rfl, hbx⟩; replace F_t := F_t.below hbx; replace F_y := F_y.below hbx; replace F_u := F_u.below hbx; replace F_x := F_x.below hbx; replace F_h := F_h.below hbx; replace C_t := blkB hbx C_t; replace C_y := blkB hbx C_y; replace C_x := blkB hbx C_x; have hBn := bt' hB1 hbx; clear hB1; have hB1 := hBn; clear hBn; clear hbx; (try clear T_t0 T_t1); (try clear T_y0 T_y1); (try clear T_x0 T_x1); obtain ⟨T_t0, T_t1⟩ := row2c C_t; obtain ⟨T_y0, T_y1⟩ := row2c C_y; obtain ⟨T_x0, T_x1⟩ := row2c C_x; skip) | (go_at_call 8; refine (hL2 _ _ _ _ _ F_x F_y).mono ?_; clear hL2; rintro e w5 ⟨rfl, hbx⟩; replace F_t := F_t.below hbx; replace F_y := F_y.below hbx; replace F_u := F_u.below hbx; replace F_x := F_x.below hbx; replace F_h := F_h.below hbx; replace C_t := blkB hbx C_t; replace C_y := blkB hbx C_y; replace C_x := blkB hbx C_x; have hBn := bt' hB1 hbx; clear hB1; have hB1 := hBn; clear hBn; clear hbx; (try clear T_t0 T_t1); (try clear T_y0 T_y1); (try clear T_x0 T_x1); obtain ⟨T_t0, T_t1⟩ := row2c C_t; obtain ⟨T_y0, T_y1⟩ := row2c C_y; obtain ⟨T_x0, T_x1⟩ := row2c C_x; skip) | (go_at_call 7; refine (hL3 _ _ _ _ _ F_h F_u).mono ?_; clear hL3; rintro e w6 ⟨rfl, hbx⟩; replace F_t := F_t.below hbx; replace F_y := F_y.below hbx; replace F_u := F_u.below hbx; replace F_x := F_x.below hbx; replace F_h := F_h.below hbx; replace C_t := blkB hbx C_t; replace C_y := blkB hbx C_y; replace C_x := blkB hbx C_x; have hBn := bt' hB1 hbx; clear hB1; have hB1 := hBn; clear hBn; clear hbx; (try clear T_t0 T_t1); (try clear T_y0 T_y1); (try clear T_x0 T_x1); obtain ⟨T_t0, T_t1⟩ := row2c C_t; obtain ⟨T_y0, T_y1⟩ := row2c C_y; obtain ⟨T_x0, T_x1⟩ := row2c C_x; skip) | (go_at_call 8; refine (hL4 _ _ _ _ _ F_x F_y).mono ?_; clear hL4; rintro e w7 ⟨rfl, hbx⟩; replace F_t := F_t.below hbx; replace F_y := F_y.below hbx; replace F_u := F_u.below hbx; replace F_x := F_x.below hbx; replace F_h := F_h.below hbx; replace C_t := blkB hbx C_t; replace C_y := blkB hbx C_y; replace C_x := blkB hbx C_x; have hBn := bt' hB1 hbx; clear hB1; have hB1 := hBn; clear hBn; clear hbx; (try clear T_t0 T_t1); (try clear T_y0 T_y1); (try clear T_x0 T_x1); obtain ⟨T_t0, T_t1⟩ := row2c C_t; obtain ⟨T_y0, T_y1⟩ := row2c C_y; obtain ⟨T_x0, T_x1⟩ := row2c C_x; skip))
    go_ret
    exact ⟨rfl, hB1⟩
  · obtain ⟨_, _, _, _, k1, k2⟩ := hRd_ok hr
    have HR : Hid (hRd fs max bb = ((gs, max), h, true)) := hr
    rw [hr] at hSR hIR
    unfold HrAns at hSR
    unfold HrOwn at hIR
    dsimp only at hSR hIR
    have k3 := tOk_len k1
    have k4 := (hOk_parts k2).2
    have K1 : Hid (tOk gs max = true) := k1
    have K2 : Hid (hOk h = true) := k2
    have hL1 := fun (w' : World) (x y : Option Addr) (p q : Nat) (h1 : Fs w' x h.length p h) (h2 : Fs w' y h.length q h) => lkFields_same h x y p q w' h1 h2 (by omega)
    have hL2 := fun (w' : World) (x y : Option Addr) (p q : Nat) (h1 : Fs w' x gs.length p gs) (h2 : Fs w' y gs.length q gs) => lkTable_same gs x y p q max w' h1 h2 (by omega)
    clear hr k1 k2
    go_upto_region 8 with (first | (go_at_call 5; refine (hSR _ F_t).mono ?_; clear hSR; rintro e w2 ⟨a2, n2, c2, b2, m2, d2, rfl, F_y, F_u, hbx⟩; replace F_t := F_t.below hbx; replace C_t := blkB hbx C_t; have hBn := bt' hB1 hbx; clear hB1; have hB1 := hBn; clear hBn; clear hbx; obtain rfl := F_y.len; obtain rfl := F_u.len; have hbA : Below w2.heap.size w2 (w2.alloc (.cells #[.slice a2 gs.length c2, .int .i64 max] 25)) := (Below.refl _ _).alloc (Nat.le_refl _) _; replace F_t := F_t.below hbA; replace F_y := F_y.below hbA; replace F_u := F_u.below hbA; replace C_t := blkB hbA C_t; have hBn := bt' hB1 hbA; clear hB1; have hB1 := hBn; clear hBn; clear hbA; have C_y : (w2.alloc (.cells #[.slice a2 gs.length c2, .int .i64 max] 25)).heap[w2.heap.size]? = some (.cells #[.slice a2 gs.length c2, .int .i64 max] 25 (0, 0)) := heap_alloc_last w2 _; (try clear T_t0 T_t1); (try clear T_y0 T_y1); obtain ⟨T_t0, T_t1⟩ := row2c C_t; obtain ⟨T_y0, T_y1⟩ := row2c C_y; skip) | (go_at_call 6; refine (hIR _ F_t).mono ?_; clear hIR; rintro e w3 ⟨v3, u3, rfl, hown, hownu, _, hbx⟩; replace F_t := F_t.below hbx; replace F_y := F_y.below hbx; replace F_u := F_u.below hbx; replace C_t := blkB hbx C_t; replace C_y := blkB hbx C_y; have hBn := bt' hB1 hbx; clear hB1; have hB1 := hBn; clear hBn; clear hbx; obtain ⟨a3, c3, rfl⟩ := own_formT hown; have F_x := own_Fs hown; obtain ⟨b3, d3, rfl⟩ := own_formT hownu; have F_h := own_Fs hownu; clear hown hownu; have hbA : Below w3.heap.size w3 (w3.alloc (.cells #[.slice a3 gs.length c3, .int .i64 max] 25)) := (Below.refl _ _).alloc (Nat.le_refl _) _; replace F_t := F_t.below hbA; replace F_y := F_y.below hbA; replace F_u := F_u.below hbA; replace F_x := F_x.below hbA; replace F_h := F_h.below hbA; replace C_t := blkB hbA C_t; replace C_y := blkB hbA C_y; have hBn := bt' hB1 hbA; clear hB1; have hB1 := hBn; clear hBn; clear hbA; have C_x : (w3.alloc (.cells #[.slice a3 gs.length c3, .int .i64 max] 25)).heap[w3.heap.size]? = some (.cells #[.slice a3 gs.length c3, .int .i64 max] 25 (0, 0)) := heap_alloc_last w3 _; (try clear T_t0 T_t1); (try clear T_y0 T_y1); (try clear T_x0 T_x1); obtain ⟨T_t0, T_t1⟩ := row2c C_t; obtain ⟨T_y0, T_y1⟩ := row2c C_y; obtain ⟨T_x0, T_x1⟩ := row2c C_x; skip) | (go_at_call 7; refine (hL1 _ _ _ _ _ F_h F_u).mono ?_; clear hL1; rintro e w4 ⟨rfl, hbx⟩; replace F_t := F_t.below hbx; replace F_y := F_y.below hbx; replace F_u := F_u.below hbx; replace F_x := F_x.below hbx; replace F_h := F_h.below hbx; replace C_t := blkB hbx C_t; replace C_y := blkB hbx C_y; replace C_x := blkB hbx C_x; have hBn := bt' hB1 hbx; clear hB1; have hB1 := hBn; clear hBn; clear hbx; (try clear T_t0 T_t1); (try clear T_y0 T_y1); (try clear T_x0 T_x1); obtain ⟨T_t0, T_t1⟩ := row2c C_t; obtain ⟨T_y0, T_y1⟩ := row2c C_y; obtain ⟨T_x0, T_x1⟩ := row2c C_x; skip) | (go_at_call 8; refine (hL2 _ _ _ _ _ F_x F_y).mono ?_; clear hL2; rintro e w5 ⟨rfl, hbx⟩; replace F_t := F_t.below hbx; replace F_y := F_y.below hbx; replace F_u := F_u.below hbx; replace F_x := F_x.below hbx; replace F_h := F_h.below hbx; replace C_t := blkB hbx C_t; replace C_y := blkB hbx C_y; replace C_x := blkB hbx C_x; have hBn := bt' hB1 hbx; clear hB1; have hB1 := hBn; clear hBn; clear hbx; (try clear T_t0 T_t1); (try clear T_y0 T_y1); (try clear T_x0 T_x1); obtain ⟨T_t0, T_t1⟩ := row2c C_t; obtain ⟨T_y0, T_y1⟩ := row2c C_y; obtain ⟨T_x0, T_x1⟩ := row2c C_x; skip))
    clear F_y F_u C_y T_t0 T_t1 T_x0 T_x1 T_y0 T_y1
    go_wp2_with fail
    refine (drawHeadWrite _ _ _ _ _ (R1.out.below hB1)).mono ?_
    rintro e wd ⟨us, g, umax, ua, ag, uc, cg, rfl, ⟨lU, sU, F_u⟩, ⟨lG, sG, F_g⟩, hbx⟩
    have DG : Hid (fsSm g) := sG
    clear sU sG R1
    replace F_t := F_t.below hbx
    replace F_x := F_x.below hbx
    replace F_h := F_h.below hbx
    replace C_t := blkB hbx C_t
    replace C_x := blkB hbx C_x
    have hBn := bt' hB1 hbx
    clear hB1
    have hB1 := hBn
    clear hBn
    clear hbx
    have hbA : Below wd.heap.size wd (wd.alloc (.cells #[.slice ua us.length uc, .int .i64 umax] 25)) := (Below.refl _ _).alloc (Nat.le_refl _) _
    replace F_t := F_t.below hbA
    replace F_x := F_x.below hbA
    replace F_h := F_h.below hbA
    replace F_u := F_u.below hbA
    replace F_g := F_g.below hbA
    replace C_t := blkB hbA C_t
    replace C_x := blkB hbA C_x
    have hBn := bt' hB1 hbA
    clear hB1
    have hB1 := hBn
    clear hBn
    clear hbA
    have C_u : (wd.alloc (.cells #[.slice ua us.length uc, .int .i64 umax] 25)).heap[wd.heap.size]? = some (.cells #[.slice ua us.length uc, .int .i64 umax] 25 (0, 0)) := heap_alloc_last wd _
    (try clear T_t0 T_t1)
    (try clear T_x0 T_x1)
    (try clear T_u0 T_u1)
    obtain ⟨T_t0, T_t1⟩ := row2c C_t
    obtain ⟨T_x0, T_x1⟩ := row2c C_x
    obtain ⟨T_u0, T_u1⟩ := row2c C_u
    have hGO := fun (w' : World) (h1 : Fs w' ag g.length cg g) => implHeadOk g ag _ cg w' h1 DG.out.bd (by omega)
    have hIG := fun (w' : World) (x : Option Addr) (p : Nat) (h1 : Fs w' x gs.length p gs) (h2 : Fs w' ag g.length cg g) => implHeadWrite gs g x ag _ p _ cg max w' h1 (tOk_bd K1.out) (by omega) h2 DG.out.bd (by omega)
    cases hg : hOk g with
    | false =>
      rw [hg] at hGO
      rw [hWr_bad (by rw [K1.out, hg]; rfl)] at hIG
      unfold HwOwn at hIG
      dsimp only at hIG
      simp only [List.length_nil] at hIG
      clear hg
      go_wp2_with (first | (go_at_call 10; refine (hIG _ _ _ F_x F_g).mono ?_; clear hIG; rintro e w6 ⟨v6, rfl, hown, hbx⟩; replace F_t := F_t.below hbx; replace F_x := F_x.below hbx; replace F_h := F_h.below hbx; replace F_u := F_u.below hbx; replace F_g := F_g.below hbx; replace C_t := blkB hbx C_t; replace C_x := blkB hbx C_x; replace C_u := blkB hbx C_u; have hBn := bt' hB1 hbx; clear hB1; have hB1 := hBn; clear hBn; clear hbx; obtain ⟨a6, c6, rfl⟩ := own_formT hown; have F_q := own_Fs hown; clear hown; have hbA : Below w6.heap.size w6 (w6.alloc (.cells #[.slice a6 0 c6, .int .i64 0] 25)) := (Below.refl _ _).alloc (Nat.le_refl _) _; replace F_t := F_t.below hbA; replace F_x := F_x.below hbA; replace F_h := F_h.below hbA; replace F_u := F_u.below hbA; replace F_g := F_g.below hbA; replace F_q := F_q.below hbA; replace C_t := blkB hbA C_t; replace C_x := blkB hbA C_x; replace C_u := blkB hbA C_u; have hBn := bt' hB1 hbA; clear hB1; have hB1 := hBn; clear hBn; clear hbA; have C_q : (w6.alloc (.cells #[.slice a6 0 c6, .int .i64 0] 25)).heap[w6.heap.size]? = some (.cells #[.slice a6 0 c6, .int .i64 0] 25 (0, 0)) := heap_alloc_last w6 _; (try clear T_t0 T_t1); (try clear T_x0 T_x1); (try clear T_u0 T_u1); (try clear T_q0 T_q1); obtain ⟨T_t0, T_t1⟩ := row2c C_t; obtain ⟨T_x0, T_x1⟩ := row2c C_x; obtain ⟨T_u0, T_u1⟩ := row2c C_u; obtain ⟨T_q0, T_q1⟩ := row2c C_q; skip) | (go_at_call 11; refine (hGO _ F_g).mono ?_; clear hGO; rintro e w7 ⟨rfl, hbx⟩; replace F_t := F_t.below hbx; replace F_x := F_x.below hbx; replace F_h := F_h.below hbx; replace F_u := F_u.below hbx; replace F_g := F_g.below hbx; replace F_q := F_q.below hbx; replace C_t := blkB hbx C_t; replace C_x := blkB hbx C_x; replace C_u := blkB hbx C_u; replace C_q := blkB hbx C_q; have hBn := bt' hB1 hbx; clear hB1; have hB1 := hBn; clear hBn; clear hbx; (try clear T_t0 T_t1); (try clear T_x0 T_x1); (try clear T_u0 T_u1); (try clear T_q0 T_q1); obtain ⟨T_t0, T_t1⟩ := row2c C_t; obtain ⟨T_x0, T_x1⟩ := row2c C_x; obtain ⟨T_u0, T_u1⟩ := row2c C_u; obtain ⟨T_q0, T_q1⟩ := row2c C_q; skip))
      go_ret
      exact ⟨rfl, hB1⟩
    | true =>
      rw [hg] at hGO
      rw [hWr_ok K1.out hg] at hIG
      obtain ⟨j1, j2, j3⟩ := wrH_len K1.out hg
      have j4 := (hOk_parts hg).2
      have HJ : Hid (h.length + g.length ≤ 6 → bb.size + (wrH gs max g).2.size ≤ 250 → hRd fs max (bb ++ (wrH gs max g).2) = (((wrH gs max g).1, max), h ++ g, true)) := fun h1 h2 => hRd_join HR.out hg h1 h2
      obtain ⟨ys, hys⟩ : ∃ ys, (wrH gs max g).1 = ys := ⟨_, rfl⟩
      obtain ⟨ds, hds⟩ : ∃ ds, (wrH gs max g).2 = ds := ⟨_, rfl⟩
      rw [hys, hds] at hIG HJ
      rw [hys] at j1 j2
      rw [hds] at j3
      unfold HwOwn at hIG
      dsimp only at hIG
      clear hys hds j1 hg
      by_cases h6 : h.length + g.length ≤ 6
      · by_cases h25 : bb.size + ds.size ≤ 250
        · have g1 : ¬ (6 : Int) < (h.length : Int) + g.length := by omega
          have g2 : ¬ (250 : Int) < (bb.size : Int) + ds.size := by omega
          have g3 : ¬ 9223372036854775807 < bb.size + ds.size := by omega
          have g4 : bb.size + ds.size ≤ 9223372036854775807 := by omega
          have hRJ := fun (w' : World) (h1 : Fs w' a' fs.length c' fs) => implHeadRead fs a' _ c' max (bb ++ ds) w' h1 DS.out.bd (by omega) (by unfold maxLen; rw [ByteArray.size_append]; omega)
          rw [HJ.out h6 h25] at hRJ
          unfold HrOwn at hRJ
          dsimp only at hRJ
          have hla : (h ++ g).length = h.length + g.length := List.length_append
          rw [hla] at hRJ
          have hL3 := fun (w' : World) (x y : Option Addr) (p q : Nat) (h1 : Fs w' x (h.length + g.length) p (h ++ g)) (h2 : Fs w' y (h.length + g.length) q (h ++ g)) => lkFields_any (h ++ g) (h ++ g) x y _ p _ q w' h1 h2 (by omega) (by omega)
          rw [eqFs_self] at hL3
          clear HJ h6 h25 hla
          have hL4 := fun (w' : World) (x y : Option Addr) (p q : Nat) (h1 : Fs w' x ys.length p ys) (h2 : Fs w' y ys.length q ys) => lkTable_same ys x y p q max w' h1 h2 (by omega)
          go_upto_region 13 with (first | (go_at_call 10; refine (hIG _ _ _ F_x F_g).mono ?_; clear hIG; rintro e w6 ⟨v6, rfl, hown, hbx⟩; replace F_t := F_t.below hbx; replace F_x := F_x.below hbx; replace F_h := F_h.below hbx; replace F_u := F_u.below hbx; replace F_g := F_g.below hbx; replace C_t := blkB hbx C_t; replace C_x := blkB hbx C_x; replace C_u := blkB hbx C_u; have hBn := bt' hB1 hbx; clear hB1; have hB1 := hBn; clear hBn; clear hbx; obtain ⟨a6, c6, rfl⟩ := own_formT hown; have F_q := own_Fs hown; clear hown; have hbA : Below w6.heap.size w6 (w6.alloc (.cells #[.slice a6 ys.length c6, .int .i64 max] 25)) := (Below.refl _ _).alloc (Nat.le_refl _) _; replace F_t := F_t.below hbA; replace F_x := F_x.below hbA; replace F_h := F_h.below hbA; replace F_u := F_u.below hbA; replace F_g := F_g.below hbA; replace F_q := F_q.below hbA; replace C_t := blkB hbA C_t; replace C_x := blkB hbA C_x; replace C_u := blkB hbA C_u; have hBn := bt' hB1 hbA; clear hB1; have hB1 := hBn; clear hBn; clear hbA; have C_q : (w6.alloc (.cells #[.slice a6 ys.length c6, .int .i64 max] 25)).heap[w6.heap.size]? = some (.cells #[.slice a6 ys.length c6, .int .i64 max] 25 (0, 0)) := heap_alloc_last w6 _; (try clear T_t0 T_t1); (try clear T_x0 T_x1); (try clear T_u0 T_u1); (try clear T_q0 T_q1); obtain ⟨T_t0, T_t1⟩ := row2c C_t; obtain ⟨T_x0, T_x1⟩ := row2c C_x; obtain ⟨T_u0, T_u1⟩ := row2c C_u; obtain ⟨T_q0, T_q1⟩ := row2c C_q; skip) | (go_at_call 11; refine (hGO _ F_g).mono ?_; clear hGO; rintro e w7 ⟨rfl, hbx⟩; replace F_t := F_t.below hbx; replace F_x := F_x.below hbx; replace F_h := F_h.below hbx; replace F_u := F_u.below hbx; replace F_g := F_g.below hbx; replace F_q := F_q.below hbx; replace C_t := blkB hbx C_t; replace C_x := blkB hbx C_x; replace C_u := blkB hbx C_u; replace C_q := blkB hbx C_q; have hBn := bt' hB1 hbx; clear hB1; have hB1 := hBn; clear hBn; clear hbx; (try clear T_t0 T_t1); (try clear T_x0 T_x1); (try clear T_u0 T_u1); (try clear T_q0 T_q1); obtain ⟨T_t0, T_t1⟩ := row2c C_t; obtain ⟨T_x0, T_x1⟩ := row2c C_x; obtain ⟨T_u0, T_u1⟩ := row2c C_u; obtain ⟨T_q0, T_q1⟩ := row2c C_q; skip) | (go_at_call 6; refine (hRJ _ F_t).mono ?_; clear hRJ; rintro e w8 ⟨v8, u8, rfl, hown, hownu, _, hbx⟩; replace F_t := F_t.below hbx; replace F_x := F_x.below hbx; replace F_h := F_h.below hbx; replace F_u := F_u.below hbx; replace F_g := F_g.below hbx; replace F_q := F_q.below hbx; replace C_t := blkB hbx C_t; replace C_x := blkB hbx C_x; replace C_u := blkB hbx C_u; replace C_q := blkB hbx C_q; have hBn := bt' hB1 hbx; clear hB1; have hB1 := hBn; clear hBn; clear hbx; obtain ⟨a8, c8, rfl⟩ := own_formT hown; have F_z := own_Fs hown; obtain ⟨b8, d8, rfl⟩ := own_formT hownu; have F_all := own_Fs hownu; clear hown hownu; have hbA : Below w8.heap.size w8 (w8.alloc (.cells #[.slice a8 ys.length c8, .int .i64 max] 25)) := (Below.refl _ _).alloc (Nat.le_refl _) _; replace F_t := F_t.below hbA; replace F_x := F_x.below hbA; replace F_h := F_h.below hbA; replace F_u := F_u.below hbA; replace F_g := F_g.below hbA; replace F_q := F_q.below hbA; replace F_z := F_z.below hbA; replace F_all := F_all.below hbA; replace C_t := blkB hbA C_t; replace C_x := blkB hbA C_x; replace C_u := blkB hbA C_u; replace C_q := blkB hbA C_q; have hBn := bt' hB1 hbA; clear hB1; have hB1 := hBn; clear hBn; clear hbA; have C_z : (w8.alloc (.cells #[.slice a8 ys.length c8, .int .i64 max] 25)).heap[w8.heap.size]? = some (.cells #[.slice a8 ys.length c8, .int .i64 max] 25 (0, 0)) := heap_alloc_last w8 _; (try clear T_t0 T_t1); (try clear T_x0 T_x1); (try clear T_u0 T_u1); (try clear T_q0 T_q1); (try clear T_z0 T_z1); obtain ⟨T_t0, T_t1⟩ := row2c C_t; obtain ⟨T_x0, T_x1⟩ := row2c C_x; obtain ⟨T_u0, T_u1⟩ := row2c C_u; obtain ⟨T_q0, T_q1⟩ := row2c C_q; obtain ⟨T_z0, T_z1⟩ := row2c C_z; skip))
          refine wabs (fun U => Fs U b3 h.length d3 h ∧ Fs U ag g.length cg g ∧ Fs U b8 (h.length + g.length) d8 (h ++ g) ∧ Fs U a8 ys.length c8 ys ∧ Fs U a6 ys.length c6 ys ∧ U.heap[w8.heap.size]? = some (.cells #[.slice a8 ys.length c8, .int .i64 max] 25 (0, 0)) ∧ U.heap[w6.heap.size]? = some (.cells #[.slice a6 ys.length c6, .int .i64 max] 25 (0, 0)) ∧ Below w.heap.size w U) ⟨F_h, F_g, F_all, F_z, F_q, C_z, C_q, hB1⟩ ?_
          clear F_t F_x F_h F_u F_g F_q F_z F_all C_t C_x C_u C_q C_z T_t0 T_t1 T_x0 T_x1 T_u0 T_u1 T_q0 T_q1 T_z0 T_z1 hB1
          rintro U ⟨F_h, F_g, F_all, F_z, F_q, C_z, C_q, hB1⟩
          have hzE : Hid ((U.alloc (.cells #[] 52)).ownsRow U.heap.size 52 3 (.slice (some ⟨U.heap.size, 0, none⟩) 0 0) 0 []) := own_zero3 U 52
          have hbE : Below U.heap.size U (U.alloc (.cells #[] 52)) := ((Below.refl _ _).alloc (Nat.le_refl _) _)
          go_wp2_with (first | (at_builtin; refine wpList_appFsG _ (by rfl) _ _ rfl U.heap.size _ _ _ rfl hzE.out b3 h.length d3 h rfl (F_h.below hbE) (by omega) (by simp) ?_; clear hzE; intro ve we howe hgrowe; rw [Nat.zero_add, List.nil_append] at howe; obtain ⟨ae, ce, rfl⟩ := own_formT howe; have hbe : Below U.heap.size U we := hbE.grown (show (U.alloc (.cells #[] 52)).grownBy we (some U.heap.size) from hgrowe) hbE.size (fun q hq => by injection hq with hq; omega); clear hgrowe hbE; have HOE : Hid (we.ownsRow U.heap.size 52 3 (.slice ae h.length ce) h.length (cellsF h)) := howe; clear howe) | (at_builtin; refine wpList_appFsG _ (by rfl) _ _ rfl U.heap.size _ _ _ rfl HOE.out ag g.length cg g rfl (F_g.below hbe) (by omega) (by have := hbe.size; omega) ?_; intro vf wf howf hgrowf; rw [← cellsF_append] at howf; obtain ⟨af, cf, rfl⟩ := own_formT howf; have hbf : Below U.heap.size U wf := hbe.grown hgrowf hbe.size (fun q hq => by have := (HOE.out.lt q hq).1; omega); clear hgrowf HOE hbe; have F_j : Fs wf af (h.length + g.length) cf (h ++ g) := own_Fs howf; clear howf; replace F_h := F_h.below hbf; replace F_g := F_g.below hbf; replace F_all := F_all.below hbf; replace F_z := F_z.below hbf; replace F_q := F_q.below hbf; replace C_z := blkB hbf C_z; replace C_q := blkB hbf C_q; have hBn := bt' hB1 hbf; clear hB1; have hB1 := hBn; clear hBn; clear hbf; (try clear T_z0 T_z1); (try clear T_q0 T_q1); obtain ⟨T_z0, T_z1⟩ := row2c C_z; obtain ⟨T_q0, T_q1⟩ := row2c C_q; skip) | (go_at_call 7; refine (hL3 _ _ _ _ _ F_all F_j).mono ?_; clear hL3; rintro e w9 ⟨rfl, hbx⟩; replace F_h := F_h.below hbx; replace F_g := F_g.below hbx; replace F_all := F_all.below hbx; replace F_z := F_z.below hbx; replace F_q := F_q.below hbx; replace F_j := F_j.below hbx; replace C_z := blkB hbx C_z; replace C_q := blkB hbx C_q; have hBn := bt' hB1 hbx; clear hB1; have hB1 := hBn; clear hBn; clear hbx; (try clear T_z0 T_z1); (try clear T_q0 T_q1); obtain ⟨T_z0, T_z1⟩ := row2c C_z; obtain ⟨T_q0, T_q1⟩ := row2c C_q; skip) | (go_at_call 8; refine (hL4 _ _ _ _ _ F_z F_q).mono ?_; clear hL4; rintro e w10 ⟨rfl, hbx⟩; replace F_h := F_h.below hbx; replace F_g := F_g.below hbx; replace F_all := F_all.below hbx; replace F_z := F_z.below hbx; replace F_q := F_q.below hbx; replace F_j := F_j.below hbx; replace C_z := blkB hbx C_z; replace C_q := blkB hbx C_q; have hBn := bt' hB1 hbx; clear hB1; have hB1 := hBn; clear hBn; clear hbx; (try clear T_z0 T_z1); (try clear T_q0 T_q1); obtain ⟨T_z0, T_z1⟩ := row2c C_z; obtain ⟨T_q0, T_q1⟩ := row2c C_q; skip))
          go_ret
          exact ⟨rfl, hB1⟩
        · have g1 : ¬ (6 : Int) < (h.length : Int) + g.length := by omega
          have g2 : (250 : Int) < (bb.size : Int) + ds.size := by omega
          clear HJ h6 h25
          go_wp2_with (first | (go_at_call 10; refine (hIG _ _ _ F_x F_g).mono ?_; clear hIG; rintro e w6 ⟨v6, rfl, hown, hbx⟩; replace F_t := F_t.below hbx; replace F_x := F_x.below hbx; replace F_h := F_h.below hbx; replace F_u := F_u.below hbx; replace F_g := F_g.below hbx; replace C_t := blkB hbx C_t; replace C_x := blkB hbx C_x; replace C_u := blkB hbx C_u; have hBn := bt' hB1 hbx; clear hB1; have hB1 := hBn; clear hBn; clear hbx; obtain ⟨a6, c6, rfl⟩ := own_formT hown; have F_q := own_Fs hown; clear hown; have hbA : Below w6.heap.size w6 (w6.alloc (.cells #[.slice a6 ys.length c6, .int .i64 max] 25)) := (Below.refl _ _).alloc (Nat.le_refl _) _; replace F_t := F_t.below hbA; replace F_x := F_x.below hbA; replace F_h := F_h.below hbA; replace F_u := F_u.below hbA; replace F_g := F_g.below hbA; replace F_q := F_q.below hbA; replace C_t := blkB hbA C_t; replace C_x := blkB hbA C_x; replace C_u := blkB hbA C_u; have hBn := bt' hB1 hbA; clear hB1; have hB1 := hBn; clear hBn; clear hbA; have C_q : (w6.alloc (.cells #[.slice a6 ys.length c6, .int .i64 max] 25)).heap[w6.heap.size]? = some (.cells #[.slice a6 ys.length c6, .int .i64 max] 25 (0, 0)) := heap_alloc_last w6 _; (try clear T_t0 T_t1); (try clear T_x0 T_x1); (try clear T_u0 T_u1); (try clear T_q0 T_q1); obtain ⟨T_t0, T_t1⟩ := row2c C_t; obtain ⟨T_x0, T_x1⟩ := row2c C_x; obtain ⟨T_u0, T_u1⟩ := row2c C_u; obtain ⟨T_q0, T_q1⟩ := row2c C_q; skip) | (go_at_call 11; refine (hGO _ F_g).mono ?_; clear hGO; rintro e w7 ⟨rfl, hbx⟩; replace F_t := F_t.below hbx; replace F_x := F_x.below hbx; replace F_h := F_h.below hbx; replace F_u := F_u.below hbx; replace F_g := F_g.below hbx; replace F_q := F_q.below hbx; replace C_t := blkB hbx C_t; replace C_x := blkB hbx C_x; replace C_u := blkB hbx C_u; replace C_q := blkB hbx C_q; have hBn := bt' hB1 hbx; clear hB1; have hB1 := hBn; clear hBn; clear hbx; (try clear T_t0 T_t1); (try clear T_x0 T_x1); (try clear T_u0 T_u1); (try clear T_q0 T_q1); obtain ⟨T_t0, T_t1⟩ := row2c C_t; obtain ⟨T_x0, T_x1⟩ := row2c C_x; obtain ⟨T_u0, T_u1⟩ := row2c C_u; obtain ⟨T_q0, T_q1⟩ := row2c C_q; skip))
          go_ret
          exact ⟨rfl, hB1⟩
      · have g1 : (6 : Int) < (h.length : Int) + g.length := by omega
        clear HJ h6
        go_wp2_with (first | (go_at_call 10; refine (hIG _ _ _ F_x F_g).mono ?_; clear hIG; rintro e w6 ⟨v6, rfl, hown, hbx⟩; replace F_t := F_t.below hbx; replace F_x := F_x.below hbx; replace F_h := F_h.below hbx; replace F_u := F_u.below hbx; replace F_g := F_g.below hbx; replace C_t := blkB hbx C_t; replace C_x := blkB hbx C_x; replace C_u := blkB hbx C_u; have hBn := bt' hB1 hbx; clear hB1; have hB1 := hBn; clear hBn; clear hbx; obtain ⟨a6, c6, rfl⟩ := own_formT hown; have F_q := own_Fs hown; clear hown; have hbA : Below w6.heap.size w6 (w6.alloc (.cells #[.slice a6 ys.length c6, .int .i64 max] 25)) := (Below.refl _ _).alloc (Nat.le_refl _) _; replace F_t := F_t.below hbA; replace F_x := F_x.below hbA; replace F_h := F_h.below hbA; replace F_u := F_u.below hbA; replace F_g := F_g.below hbA; replace F_q := F_q.below hbA; replace C_t := blkB hbA C_t; replace C_x := blkB hbA C_x; replace C_u := blkB hbA C_u; have hBn := bt' hB1 hbA; clear hB1; have hB1 := hBn; clear hBn; clear hbA; have C_q : (w6.alloc (.cells #[.slice a6 ys.length c6, .int .i64 max] 25)).heap[w6.heap.size]? = some (.cells #[.slice a6 ys.length c6, .int .i64 max] 25 (0, 0)) := heap_alloc_last w6 _; (try clear T_t0 T_t1); (try clear T_x0 T_x1); (try clear T_u0 T_u1); (try clear T_q0 T_q1); obtain ⟨T_t0, T_t1⟩ := row2c C_t; obtain ⟨T_x0, T_x1⟩ := row2c C_x; obtain ⟨T_u0, T_u1⟩ := row2c C_u; obtain ⟨T_q0, T_q1⟩ := row2c C_q; skip) | (go_at_call 11; refine (hGO _ F_g).mono ?_; clear hGO; rintro e w7 ⟨rfl, hbx⟩; replace F_t := F_t.below hbx; replace F_x := F_x.below hbx; replace F_h := F_h.below hbx; replace F_u := F_u.below hbx; replace F_g := F_g.below hbx; replace F_q := F_q.below hbx; replace C_t := blkB hbx C_t; replace C_x := blkB hbx C_x; replace C_u := blkB hbx C_u; replace C_q := blkB hbx C_q; have hBn := bt' hB1 hbx; clear hB1; have hB1 := hBn; clear hBn; clear hbx; (try clear T_t0 T_t1); (try clear T_x0 T_x1); (try clear T_u0 T_u1); (try clear T_q0 T_q1); obtain ⟨T_t0, T_t1⟩ := row2c C_t; obtain ⟨T_x0, T_x1⟩ := row2c C_x; obtain ⟨T_u0, T_u1⟩ := row2c C_u; obtain ⟨T_q0, T_q1⟩ := row2c C_q; skip))
        go_ret
        exact ⟨rfl, hB1⟩
end Go.Proofs.YtbhoafiolalgaaaGreat
