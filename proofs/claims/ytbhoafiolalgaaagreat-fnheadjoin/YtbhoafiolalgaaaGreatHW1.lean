import Derived.Test.YtbhoafiolalgaaaGreatBE
import Derived.Deep.RegionHeld3
import Derived.Deep.DeepCutAuto
namespace Go.Proofs.YtbhoafiolalgaaaGreat
open Go.RowKit
set_option linter.unusedVariables false

structure TB (w : World) (B : Nat) (a : Option Addr) (n cap : Nat) (max : Int) (f : Fd) (fs : List Fd) (w' : World) : Prop where
  tab : w'.heap[B]? = some (.cells #[.slice a n cap, .int .i64 max] 25 (0, 0))
  fld : w'.heap[B + 1]? = some (.cells #[.string f.n, .string f.v, .bool f.q] 52 (0, 0))
  res : w'.heap[B + 1 + 1]? = some (.cells #[.slice none 0 0, .int .i64 0] 25 (0, 0))
  fs : Fs w' a n cap fs
  bel : Below w.heap.size w w'
theorem TB.below {w : World} {B : Nat} {a : Option Addr} {n cap : Nat} {max : Int} {f : Fd} {fs : List Fd} {w1 w2 : World} (h : TB w B a n cap max f fs w1) (hb : Below w1.heap.size w1 w2) : TB w B a n cap max f fs w2 :=
  ⟨(hb.block _ (Array.getElem?_eq_some_iff.1 h.tab).1).trans h.tab, (hb.block _ (Array.getElem?_eq_some_iff.1 h.fld).1).trans h.fld, (hb.block _ (Array.getElem?_eq_some_iff.1 h.res).1).trans h.res, h.fs.below hb, h.bel.trans (hb.mono h.bel.size)⟩
theorem TB.alloc {w : World} {B : Nat} {a : Option Addr} {n cap : Nat} {max : Int} {f : Fd} {fs : List Fd} {w1 : World} (h : TB w B a n cap max f fs w1) (o : Obj) : TB w B a n cap max f fs (w1.alloc o) :=
  h.below ((Below.refl _ _).alloc (Nat.le_refl _) _)
theorem TB.cells {w : World} {B : Nat} {a : Option Addr} {n cap : Nat} {max : Int} {f : Fd} {fs : List Fd} {w' : World} (h : TB w B a n cap max f fs w') : w'.cell? ⟨B, 0, none⟩ = some (.slice a n cap) ∧ w'.cell? ⟨B, 1, none⟩ = some (.int .i64 max) ∧ w'.cell? ⟨B + 1, 0, none⟩ = some (.string f.n) ∧ w'.cell? ⟨B + 1, 1, none⟩ = some (.string f.v) ∧ w'.cell? ⟨B + 1, 2, none⟩ = some (.bool f.q) ∧ w'.cell? ⟨B + 1 + 1, 0, none⟩ = some (.slice none 0 0) ∧ w'.cell? ⟨B + 1 + 1, 1, none⟩ = some (.int .i64 0) ∧ w'.frozen? ⟨B + 1 + 1, 0, none⟩ = false ∧ w'.frozen? ⟨B + 1 + 1, 1, none⟩ = false :=
  ⟨cell_of_row _ _ 0 _ _ _ h.tab, cell_of_row _ _ 1 _ _ _ h.tab, cell_of_row _ _ 0 _ _ _ h.fld, cell_of_row _ _ 1 _ _ _ h.fld, cell_of_row _ _ 2 _ _ _ h.fld, cell_of_row _ _ 0 _ _ _ h.res, cell_of_row _ _ 1 _ _ _ h.res, by simp [World.frozen?, h.res], by simp [World.frozen?, h.res]⟩
theorem TB.five {w : World} {B : Nat} {a : Option Addr} {n cap : Nat} {max : Int} {f : Fd} {fs : List Fd} {w' : World} (h : TB w B a n cap max f fs w') : w'.cell? ⟨B, 0, none⟩ = some (.slice a n cap) ∧ w'.cell? ⟨B, 1, none⟩ = some (.int .i64 max) ∧ w'.cell? ⟨B + 1, 0, none⟩ = some (.string f.n) ∧ w'.cell? ⟨B + 1, 1, none⟩ = some (.string f.v) ∧ w'.cell? ⟨B + 1, 2, none⟩ = some (.bool f.q) :=
  ⟨h.cells.1, h.cells.2.1, h.cells.2.2.1, h.cells.2.2.2.1, h.cells.2.2.2.2.1⟩
theorem TB.five_set {w : World} {B : Nat} {a : Option Addr} {n cap : Nat} {max : Int} {f : Fd} {fs : List Fd} {w' : World} (h : TB w B a n cap max f fs w') (x y : Value) : ((w'.setCell ⟨B + 1 + 1, 0, none⟩ x).setCell ⟨B + 1 + 1, 1, none⟩ y).cell? ⟨B, 0, none⟩ = some (.slice a n cap) ∧ ((w'.setCell ⟨B + 1 + 1, 0, none⟩ x).setCell ⟨B + 1 + 1, 1, none⟩ y).cell? ⟨B, 1, none⟩ = some (.int .i64 max) ∧ ((w'.setCell ⟨B + 1 + 1, 0, none⟩ x).setCell ⟨B + 1 + 1, 1, none⟩ y).cell? ⟨B + 1, 0, none⟩ = some (.string f.n) ∧ ((w'.setCell ⟨B + 1 + 1, 0, none⟩ x).setCell ⟨B + 1 + 1, 1, none⟩ y).cell? ⟨B + 1, 1, none⟩ = some (.string f.v) ∧ ((w'.setCell ⟨B + 1 + 1, 0, none⟩ x).setCell ⟨B + 1 + 1, 1, none⟩ y).cell? ⟨B + 1, 2, none⟩ = some (.bool f.q) := by
  have h5 := h.five
  have n0 : B ≠ B + 1 + 1 := by omega
  have n1 : B + 1 ≠ B + 1 + 1 := by omega
  refine ⟨?_, ?_, ?_, ?_, ?_⟩
  · rw [cell_set _ _ _ _ n0, cell_set _ _ _ _ n0]; exact h5.1
  · rw [cell_set _ _ _ _ n0, cell_set _ _ _ _ n0]; exact h5.2.1
  · rw [cell_set _ _ _ _ n1, cell_set _ _ _ _ n1]; exact h5.2.2.1
  · rw [cell_set _ _ _ _ n1, cell_set _ _ _ _ n1]; exact h5.2.2.2.1
  · rw [cell_set _ _ _ _ n1, cell_set _ _ _ _ n1]; exact h5.2.2.2.2

theorem load_tab {w : World} {g : Nat} {x y : Value} (hg : w.heap[g]? = some (.cells #[x, y] 25 (0, 0))) : (loadVar 25 ⟨g, 0, none⟩).run Tryz.prog w = .ok (.agg #[x, y]) w :=
  run_loadVar_row w g 25 25 #[x, y] (0, 0) _ hg Tryz.underlying25 rfl infoT2
theorem Fs.kept {w w' : World} {a : Option Addr} {n cap : Nat} {fs : List Fd} {row : Option Nat} (h : Fs w a n cap fs) (hg : w.grownBy w' row) (hne : ∀ g o, a = some ⟨g, o, none⟩ → 0 < n → some g ≠ row) : Fs w' a n cap fs := by
  refine ⟨h.len, h.le, h.cmax, ?_, h.some', h.form⟩
  intro g o e j u hu
  have hn : 0 < n := by
    have := List.getElem?_eq_some_iff.1 hu
    obtain ⟨hj, _⟩ := this
    rw [cellsF_length, h.len] at hj
    omega
  exact hg.cell (a := ⟨g, o + j, none⟩) (h.cells g o e j u hu) (hne g o e hn)
theorem Fs.off {w : World} {g o n cap B : Nat} {fs : List Fd} {p q : Value} {t : TypeId} (h : Fs w (some ⟨g, o, none⟩) n cap fs) (hn : 0 < n) (hB : w.heap[B]? = some (.cells #[p, q] t (0, 0))) : g ≠ B := by
  rintro rfl
  have hl : 0 < fs.length := by rw [h.len]; exact hn
  obtain ⟨c0, c1, c2⟩ := h.at 0 hl
  have e2 := cell_of_row w g (o + 0 * 3 + 2) _ _ _ hB
  rw [c2] at e2
  have : o + 0 * 3 + 2 < #[p, q].size := by
    have := Array.getElem?_eq_some_iff.1 e2.symm
    exact this.1
  have h2 : #[p, q].size = 2 := rfl
  omega
theorem Fs.set2 {w : World} {B : Nat} (x y : Value) {a : Option Addr} {n cap : Nat} {fs : List Fd} {p q : Value} {t : TypeId} (h : Fs w a n cap fs) (hB : w.heap[B]? = some (.cells #[p, q] t (0, 0))) (o1 o2 : Nat) : Fs ((w.setCell ⟨B, o1, none⟩ x).setCell ⟨B, o2, none⟩ y) a n cap fs := by
  refine ⟨h.len, h.le, h.cmax, ?_, h.some', h.form⟩
  intro g o e j u hu
  have hn : 0 < n := by
    obtain ⟨hj, _⟩ := List.getElem?_eq_some_iff.1 hu
    rw [cellsF_length, h.len] at hj
    omega
  subst e
  have hne : g ≠ B := h.off hn hB
  rw [cell_set _ _ _ _ hne, cell_set _ _ _ _ hne]
  exact h.cells g o rfl j u hu

set_option maxRecDepth 100000 in
set_option maxHeartbeats 4000000 in
theorem l11Write_any (fs : List Fd) (f : Fd) (a : Option Addr) (n cap : Nat) (max : Int) (w : World) (hf : Fs w a n cap fs) (ht : tOk fs max = true) (hfo : fOk f = true) :
    Calls Tryz.prog 52 #[.agg #[.slice a n cap, .int .i64 max], f.val] w fun e w' => ∃ a' n' c', e = .returned (.tuple #[.agg #[.slice a' n' c', .int .i64 max], .string (wrF fs max f).2]) ∧ Fs w' a' n' c' (wrF fs max f).1 ∧ Below w.heap.size w w' := by
  have hlen := hf.len
  have hn16 := tOk_len ht
  have hmx0 := tOk_max ht
  have hfs := fOk_size hfo
  obtain ⟨wn, wne, wv⟩ := fOk_parts hfo
  have hbd : fsBd fs := fun x hx => by have := fOk_size ((tOk_parts ht).1 x hx).1; omega
  have hfind := fun (w' : World) (h : Fs w' a n cap fs) => l3Find_any fs a n cap max f w' h (by omega)
  obtain ⟨⟨p, b⟩, hfd⟩ : ∃ r, findV fs f = r := ⟨_, rfl⟩
  rw [hfd] at hfind
  have hpl := pl_le hfd
  have hsn := wrV_size f.n
  have hsv := wrV_size f.v
  have hname := fun bits w b0 b1 g1 => l11Name_any p bits f w (by omega) b0 b1 g1 wn (by omega)
  have hval := fun w => l2Write_ok f.v w wv
  have hB0 : Below w.heap.size w (((w.alloc (.cells #[.slice a n cap, .int .i64 max] 25)).alloc (.cells #[.string f.n, .string f.v, .bool f.q] 52)).alloc (.cells #[.slice none 0 0, .int .i64 0] 25)) := (((Below.refl _ _).alloc (Nat.le_refl _) _).alloc (by simp) _).alloc (by simp; omega) _
  have hS0 : TB w (w.heap.size) a n cap max f fs (((w.alloc (.cells #[.slice a n cap, .int .i64 max] 25)).alloc (.cells #[.string f.n, .string f.v, .bool f.q] 52)).alloc (.cells #[.slice none 0 0, .int .i64 0] 25)) := by
    have e1 := heap_alloc_last w (.cells #[.slice a n cap, .int .i64 max] 25)
    have e2 := heap_alloc_last (w.alloc (.cells #[.slice a n cap, .int .i64 max] 25)) (.cells #[.string f.n, .string f.v, .bool f.q] 52)
    have e3 := heap_alloc_last ((w.alloc (.cells #[.slice a n cap, .int .i64 max] 25)).alloc (.cells #[.string f.n, .string f.v, .bool f.q] 52)) (.cells #[.slice none 0 0, .int .i64 0] 25)
    rw [World.size_alloc] at e2
    rw [World.size_alloc, World.size_alloc] at e3
    exact ⟨blkT (blkT e1 _) _, blkT e2 _, e3, hf.below hB0, hB0⟩
  have HS0 : Hid _ := hS0
  clear hS0 hB0
  have hmx : Tryz.prog.follows .mixedOrders = true := by kernel_rfl
  have hz3 := fun bits => numS_le p bits 1
  have hzn := nameB_size p 4 f
  have hzn6 := nameB_size p 6 f
  have hc4 : (nameB p 4 f).size + (wrV f.v).size ≤ 9223372036854775807 := by omega
  have hc4' : ¬ 9223372036854775807 < (nameB p 4 f).size + (wrV f.v).size := by omega
  have hc6 : (nameB p 6 f).size + (wrV f.v).size ≤ 9223372036854775807 := by omega
  have hc6' : ¬ 9223372036854775807 < (nameB p 6 f).size + (wrV f.v).size := by omega
  unfold wrF
  rw [hfd]
  dsimp only
  obtain ⟨fn, fv, fq⟩ := f
  unfold Fd.val at hfind hname ⊢
  dsimp only at *
  cases fq with
  | true =>
    rw [if_pos rfl]
    dsimp only
    have hnm := fun w => hname 4 w (by decide) (by decide) (by decide)
    clear hname hc6 hc6' hzn6 hz3
    go_enter Tryz.func52, Tryz.ntmps52
    go_wp2_with (go_at_call 74; refine (hfind _ HS0.out.fs).mono ?_; clear hfind; rintro e w1 ⟨rfl, hb1⟩; have hS1 := HS0.out.below hb1; obtain ⟨q1, q2, q3, q4, q5, q6, q7, q8, q9⟩ := hS1.cells; dsimp only at q3 q4 q5)
    go_region_held3 (fun w' => w'.cell? ⟨w.heap.size, 0, none⟩ = some (.slice a n cap) ∧ w'.cell? ⟨w.heap.size, 1, none⟩ = some (.int .i64 max) ∧ w'.cell? ⟨w.heap.size + 1, 0, none⟩ = some (.string fn) ∧ w'.cell? ⟨w.heap.size + 1, 1, none⟩ = some (.string fv) ∧ w'.cell? ⟨w.heap.size + 1, 2, none⟩ = some (.bool true)) (first | with_reducible exact ⟨q1, q2, q3, q4, q5⟩ | with_reducible assumption | with_reducible exact (hS1.below ((Below.refl _ _).drew)).five | with_reducible exact hS2.five_set _ _ | with_reducible exact hS3.five_set _ _) ((first | (go_at_call 75; refine (hnm _).mono ?_; clear hnm; rintro e w2 ⟨rfl, hb2⟩; have hS2 := hS1.below (bt' ((Below.refl _ _).drew) hb2); have hK2 := hS2.five; dsimp only at hK2 ) | (go_at_call 34; refine (hval _).mono ?_; clear hval; rintro e w3 ⟨rfl, hb3⟩; have hS3 := hS2.below hb3; have hK3 := hS3.five; dsimp only at hK3; obtain ⟨z1, z2, z3, z4, z5, z6, z7, z8, z9⟩ := hS3.cells; dsimp only at z3 z4 z5)))
    go_wp2
    refine bodyPost_ret (results_cell_tmp rfl _ _ (w.heap.size + 1 + 1) #[.slice a n cap, .int .i64 max] rfl (load_tab (set2_heap _ _ hS3.res))) rfl ⟨_, _, _, rfl, hS3.fs.set2 _ _ hS3.res 0 1, (hS3.bel.setCell (p := ⟨w.heap.size + 1 + 1, 0, none⟩) (by show w.heap.size ≤ w.heap.size + 1 + 1; omega) _).setCell (p := ⟨w.heap.size + 1 + 1, 1, none⟩) (by show w.heap.size ≤ w.heap.size + 1 + 1; omega) _⟩
  | false =>
    rw [if_neg (by decide)]
    cases b with
    | true =>
      rw [if_pos rfl]
      dsimp only
      have hnw := fun w => l1Write_ok (p : Int) 7 1 w ⟨by decide, by decide, by omega, by omega, by decide, by decide⟩
      clear hname hc6 hc6' hzn6 hz3 hc4 hc4' hzn hval
      go_enter Tryz.func52, Tryz.ntmps52
      go_wp2_with (go_at_call 74; refine (hfind _ HS0.out.fs).mono ?_; clear hfind; rintro e w1 ⟨rfl, hb1⟩; have hS1 := HS0.out.below hb1; obtain ⟨q1, q2, q3, q4, q5, q6, q7, q8, q9⟩ := hS1.cells; dsimp only at q3 q4 q5)
      go_region_held3 (fun w' => w'.cell? ⟨w.heap.size, 0, none⟩ = some (.slice a n cap) ∧ w'.cell? ⟨w.heap.size, 1, none⟩ = some (.int .i64 max) ∧ w'.cell? ⟨w.heap.size + 1, 0, none⟩ = some (.string fn) ∧ w'.cell? ⟨w.heap.size + 1, 1, none⟩ = some (.string fv) ∧ w'.cell? ⟨w.heap.size + 1, 2, none⟩ = some (.bool false)) (first | with_reducible exact ⟨q1, q2, q3, q4, q5⟩ | with_reducible assumption | with_reducible exact (hS1.below ((Below.refl _ _).drew)).five | with_reducible exact hS3.five_set _ _) ((first | (go_at_call 55; refine (hnw _).mono ?_; clear hnw; rintro e w3 ⟨rfl, hb3⟩; have hS3 := hS1.below (bt' ((Below.refl _ _).drew) hb3); have hK3 := hS3.five; dsimp only at hK3; obtain ⟨z1, z2, z3, z4, z5, z6, z7, z8, z9⟩ := hS3.cells; dsimp only at z3 z4 z5)))
      go_wp2
      refine bodyPost_ret (results_cell_tmp rfl _ _ (w.heap.size + 1 + 1) #[.slice a n cap, .int .i64 max] rfl (load_tab (set2_heap _ _ hS3.res))) rfl ⟨_, _, _, rfl, hS3.fs.set2 _ _ hS3.res 0 1, (hS3.bel.setCell (p := ⟨w.heap.size + 1 + 1, 0, none⟩) (by show w.heap.size ≤ w.heap.size + 1 + 1; omega) _).setCell (p := ⟨w.heap.size + 1 + 1, 1, none⟩) (by show w.heap.size ≤ w.heap.size + 1 + 1; omega) _⟩
    | false =>
      rw [if_neg (by decide)]
      dsimp only
      have hnm := fun w => hname 6 w (by decide) (by decide) (by decide)
      have hadd := fun (w' : World) (h : Fs w' a n cap fs) => l3Add_any fs ⟨fn, fv, false⟩ a n cap max w' h hbd ⟨by dsimp only; omega, by dsimp only; omega⟩ (by omega) hmx0.1 (by omega)
      unfold Fd.val at hadd
      dsimp only at hadd
      obtain ⟨gs, hgs⟩ : ∃ gs, fitL max (⟨fn, fv, false⟩ :: fs) = gs := ⟨_, rfl⟩
      rw [hgs] at hadd ⊢
      clear hname hc4 hc4' hzn hz3 hgs
      go_enter Tryz.func52, Tryz.ntmps52
      go_wp2_with (go_at_call 74; refine (hfind _ HS0.out.fs).mono ?_; clear hfind; rintro e w1 ⟨rfl, hb1⟩; have hS1 := HS0.out.below hb1; obtain ⟨q1, q2, q3, q4, q5, q6, q7, q8, q9⟩ := hS1.cells; dsimp only at q3 q4 q5)
      go_region_held3 (fun w' => w'.cell? ⟨w.heap.size, 0, none⟩ = some (.slice a n cap) ∧ w'.cell? ⟨w.heap.size, 1, none⟩ = some (.int .i64 max) ∧ w'.cell? ⟨w.heap.size + 1, 0, none⟩ = some (.string fn) ∧ w'.cell? ⟨w.heap.size + 1, 1, none⟩ = some (.string fv) ∧ w'.cell? ⟨w.heap.size + 1, 2, none⟩ = some (.bool false)) (first | with_reducible exact ⟨q1, q2, q3, q4, q5⟩ | with_reducible assumption | with_reducible exact (hS1.below ((Below.refl _ _).drew)).five | with_reducible exact hS4.five_set _ _ | with_reducible exact hS2.five_set _ _ | with_reducible exact hS3.five_set _ _) ((first | (go_at_call 30; refine (hadd _ (hS1.below ((Below.refl _ _).drew)).fs).mono ?_; clear hadd; rintro e w4 ⟨v4, rfl, hown4, hb4⟩; obtain ⟨a4, c4, rfl⟩ := own_formT hown4; have hF4 := own_Fs hown4; clear hown4; have hS4 := hS1.below (bt' ((Below.refl _ _).drew) hb4); have hK4 := hS4.five; dsimp only at hK4) | (go_at_call 75; refine (hnm _).mono ?_; clear hnm; rintro e w2 ⟨rfl, hb2⟩; have hS2 := hS4.below hb2; have hK2 := hS2.five; dsimp only at hK2; have hF2 := hF4.below hb2) | (go_at_call 34; refine (hval _).mono ?_; clear hval; rintro e w3 ⟨rfl, hb3⟩; have hS3 := hS2.below hb3; have hK3 := hS3.five; dsimp only at hK3; have hF3 := hF2.below hb3; obtain ⟨z1, z2, z3, z4, z5, z6, z7, z8, z9⟩ := hS3.cells; dsimp only at z3 z4 z5)))
      go_wp2
      refine bodyPost_ret (results_cell_tmp rfl _ _ (w.heap.size + 1 + 1) #[.slice a4 gs.length c4, .int .i64 max] rfl (load_tab (set2_heap _ _ hS3.res))) rfl ⟨_, _, _, rfl, hF3.set2 _ _ hS3.res 0 1, (hS3.bel.setCell (p := ⟨w.heap.size + 1 + 1, 0, none⟩) (by show w.heap.size ≤ w.heap.size + 1 + 1; omega) _).setCell (p := ⟨w.heap.size + 1 + 1, 1, none⟩) (by show w.heap.size ≤ w.heap.size + 1 + 1; omega) _⟩
end Go.Proofs.YtbhoafiolalgaaaGreat
