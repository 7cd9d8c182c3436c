import Derived.Test.YtafhpcgdlmkbeaeTDraw4
import Derived.Deep.RegionHeld3
import Derived.Deep.RegionLaw
namespace Go.Proofs.Ytafhpcgdlmkbeae
open Go.RowKit
set_option linter.unusedVariables false

theorem drew_cell {W : World} {p : Addr} {v : Value} (h : W.cell? p = some v) : W.drew.cell? p = some v := h
theorem drew_heap {W : World} {B : Nat} {o : Obj} (h : W.heap[B]? = some o) : W.drew.heap[B]? = some o := h
theorem cs2 {W : World} {R : Nat} {x y : Value} {p : Addr} {v : Value} (hne : p.block ≠ R) (h : W.cell? p = some v) : ((W.setCell ⟨R, 0, none⟩ x).setCell ⟨R, 1, none⟩ y).cell? p = some v :=
  (cell_set _ _ _ _ hne).trans ((cell_set _ _ _ _ hne).trans h)
theorem cs3 {W : World} {R : Nat} {x y z : Value} {p : Addr} {v : Value} (hne : p.block ≠ R) (h : W.cell? p = some v) : (((W.setCell ⟨R, 0, none⟩ x).setCell ⟨R, 1, none⟩ y).setCell ⟨R, 2, none⟩ z).cell? p = some v :=
  (cell_set _ _ _ _ hne).trans (cs2 hne h)
theorem set3_full {W : World} {B : Nat} {a b c : Value} {t : TypeId} (x y z : Value) (h : W.heap[B]? = some (.cells #[a, b, c] t (0, 0))) : (((W.setCell ⟨B, 0, none⟩ x).setCell ⟨B, 1, none⟩ y).setCell ⟨B, 2, none⟩ z).heap[B]? = some (.cells #[x, y, z] t (0, 0)) :=
  set3_heap (a := x) (b := y) (c := c) 2 z (set3_heap (a := x) (b := b) (c := c) 1 y (set3_heap 0 x h))
theorem hs2 {W : World} {R B : Nat} {x y : Value} {o : Obj} (hne : B ≠ R) (h : W.heap[B]? = some o) : ((W.setCell ⟨R, 0, none⟩ x).setCell ⟨R, 1, none⟩ y).heap[B]? = some o :=
  (Below.heap_setCell _ ⟨R, 1, none⟩ y B hne).trans ((Below.heap_setCell _ ⟨R, 0, none⟩ x B hne).trans h)
theorem hs3 {W : World} {R B : Nat} {x y z : Value} {o : Obj} (hne : B ≠ R) (h : W.heap[B]? = some o) : (((W.setCell ⟨R, 0, none⟩ x).setCell ⟨R, 1, none⟩ y).setCell ⟨R, 2, none⟩ z).heap[B]? = some o :=
  (Below.heap_setCell _ ⟨R, 2, none⟩ z B hne).trans (hs2 hne h)

set_option maxRecDepth 100000 in
set_option maxHeartbeats 20000000 in
theorem drawTableFind (a : Option Addr) (len cap : Nat) (zs : List Int) (w : World) (hr : Row w a len cap zs) :
    Calls Try.prog 22 #[.slice a len cap] w fun e w' => ∃ (fs : List Fd) (max : Int) (a' : Option Addr) (c' : Nat) (f : Fd), e = .returned (.tuple #[.agg #[.slice a' fs.length c', .int .i64 max], f.val]) ∧ DT w' fs max a' c' ∧ f.n.size ≤ 20 ∧ f.v.size ≤ 20 ∧ Below w.heap.size w w' := by
  have HR : Hid (Row w a len cap zs) := hr
  clear hr
  have hb0 : Below w.heap.size w ((w.alloc (.cells #[.slice none 0 0, .int .i64 0] 25)).alloc (.cells #[.string ⟨#[]⟩, .string ⟨#[]⟩, .bool false] 35)) := ((Below.refl _ _).alloc (Nat.le_refl _) _).alloc (by simp) _
  have hR0 : Hid (((w.alloc (.cells #[.slice none 0 0, .int .i64 0] 25)).alloc (.cells #[.string ⟨#[]⟩, .string ⟨#[]⟩, .bool false] 35)).heap[w.heap.size]? = some (.cells #[.slice none 0 0, .int .i64 0] 25 (0, 0))) := blkT (heap_alloc_last w _) _
  have hG0 : Hid (((w.alloc (.cells #[.slice none 0 0, .int .i64 0] 25)).alloc (.cells #[.string ⟨#[]⟩, .string ⟨#[]⟩, .bool false] 35)).heap[w.heap.size + 1]? = some (.cells #[.string ⟨#[]⟩, .string ⟨#[]⟩, .bool false] 35 (0, 0))) := by
    have h := heap_alloc_last (w.alloc (.cells #[.slice none 0 0, .int .i64 0] 25)) (.cells #[.string ⟨#[]⟩, .string ⟨#[]⟩, .bool false] 35)
    rw [World.size_alloc] at h
    exact h
  go_enter Try.func22, Try.ntmps22
  go_wp2_with fail
  refine (open_st2 _ _ _ _ _ (HR.out.below hb0)).mono ?_
  rw [World.size_alloc, World.size_alloc]
  rintro e w1 ⟨rfl, s1, hb1, hz1⟩
  have hR1 := (hb1.block w.heap.size (by omega)).trans hR0.out
  have hG1 := (hb1.block (w.heap.size + 1) (by omega)).trans hG0.out
  have hB1 : Below w.heap.size w w1 := hb0.trans (hb1.mono (by omega))
  clear hR0 hG0 hb0 hb1
  go_wp2_with fail
  refine (l71Table_any (w.heap.size + 1 + 1) 0 _ _ s1 (by decide)).mono ?_
  rintro e w2 ⟨fs, max, a', c', rfl, hl, hsm, m0, m1, hown, s2⟩
  have hR2 := s2.blk hR1 (by omega)
  have hG2 := s2.blk hG1 (by omega)
  have hB2 := s2.bel hB1 (by omega) hB1.size
  have HSM : Hid (fsSm fs) := hsm
  have hz2 := s2.kept.size
  clear s1 hR1 hG1 hB1 hsm
  go_wp2_with fail
  have s2' := s2.alloc (.cells #[.slice a' fs.length c', .int .i64 max] 25)
  have hT2 : (w2.alloc (.cells #[.slice a' fs.length c', .int .i64 max] 25)).heap[w2.heap.size]? = some (.cells #[.slice a' fs.length c', .int .i64 max] 25 (0, 0)) := heap_alloc_last w2 _
  have hB2' : Below w.heap.size w (w2.alloc (.cells #[.slice a' fs.length c', .int .i64 max] 25)) := hB2.alloc hB2.size _
  refine (l71Field_v (w.heap.size + 1 + 1) 1000 _ _ s2'.self (by decide)).mono ?_
  rintro e w3 ⟨f, rfl, hfn, hfv, k3⟩
  obtain ⟨T, hT⟩ : ∃ T, w2.heap.size = T := ⟨_, rfl⟩
  rw [hT] at hT2 hz2 ⊢
  have hTn : w.heap.size + 1 + 1 < T := by omega
  have hT3 := k3.blk hT2 (by omega)
  have hR3 := k3.blk (blkT hR2 _) (by omega)
  have hG3 := k3.blk (blkT hG2 _) (by omega)
  have hB3 := k3.bel hB2' (by omega) hB2'.size
  have hO3 := own_st2 (hown.alloc _) k3 (by omega)
  have s3 : St2 w1 w3 (w.heap.size + 1 + 1) 1070 := s2'.step k3
  have hTz : T < w3.heap.size := (Array.getElem?_eq_some_iff.1 hT3).1
  clear k3 s2' s2 hT2 hR2 hG2 hB2 hB2' hown hT
  have hbF : Below w3.heap.size w3 (w3.alloc (.cells #[.string f.n, .string f.v, .bool f.q] 35)) := (Below.refl _ _).alloc (Nat.le_refl _) _
  have hF4 : (w3.alloc (.cells #[.string f.n, .string f.v, .bool f.q] 35)).heap[w3.heap.size]? = some (.cells #[.string f.n, .string f.v, .bool f.q] 35 (0, 0)) := heap_alloc_last w3 _
  have hT4 := blkB hbF hT3
  have hR4 := blkB hbF hR3
  have hG4 := blkB hbF hG3
  have hB4 : Below w.heap.size w (w3.alloc (.cells #[.string f.n, .string f.v, .bool f.q] 35)) := hB3.alloc hB3.size _
  have hO4 := hO3.alloc (.cells #[.string f.n, .string f.v, .bool f.q] 35)
  have s4 := s3.alloc (.cells #[.string f.n, .string f.v, .bool f.q] 35)
  obtain ⟨F, hF⟩ : ∃ F, w3.heap.size = F := ⟨_, rfl⟩
  rw [hF] at hF4 hTz
  have hw1z : w.heap.size + 1 + 1 < w1.heap.size := by omega
  have hFO : Hid (some F ≠ (Value.slice a' fs.length c').ownBlock) := show some F ≠ (Value.slice a' fs.length c').ownBlock from fun e => by have := (hO3.lt F e.symm).2; omega
  clear hT3 hR3 hG3 hB3 hO3 s3 hbF
  have t0 := cell_of_row _ _ 0 _ _ _ hT4
  by_cases hz : fs.length = 0
  · have hz' : ((fs.length : Int)) = 0 := by omega
    have hz'' : ¬ 0 < fs.length := by omega
    have hz3 : decide (0 < (fs.length : Int)) = false := by rw [decide_eq_false_iff_not]; omega
    go_wp2
    try rw [hF]
    refine wabs (fun W => W.heap[T]? = some (.cells #[.slice a' fs.length c', .int .i64 max] 25 (0, 0)) ∧ W.heap[F]? = some (.cells #[.string f.n, .string f.v, .bool f.q] 35 (0, 0)) ∧ W.heap[w.heap.size]? = some (.cells #[.slice none 0 0, .int .i64 0] 25 (0, 0)) ∧ W.heap[w.heap.size + 1]? = some (.cells #[.string ⟨#[]⟩, .string ⟨#[]⟩, .bool false] 35 (0, 0)) ∧ W.ownsRow w1.heap.size 35 3 (.slice a' fs.length c') fs.length (cellsF fs) ∧ Below w.heap.size w W) ⟨hT4, hF4, hR4, hG4, hO4, hB4⟩ ?_
    clear hT4 hF4 hR4 hG4 hO4 hB4 s4 t0 hF hz' hz'' hz3 hz
    rintro W ⟨hTW, hFW, hRW, hGW, hOW, hBW⟩
    have hmx : Try.prog.follows .mixedOrders = true := by kernel_rfl
    have hRl := (Array.getElem?_eq_some_iff.1 hRW).1
    obtain ⟨i0, i1⟩ := row2c hTW
    obtain ⟨i2, i3, i4⟩ := row3c hFW
    obtain ⟨r0, r1⟩ := row2c hRW
    have fr0 := frz3 0 hRW
    have fr1 := frz3 1 hRW
    have hG6 := hs2 (x := .slice a' fs.length c') (y := .int .i64 max) (show w.heap.size + 1 ≠ w.heap.size by omega) hGW
    obtain ⟨g0, g1, g2⟩ := row3c hG6
    have fg0 := frz3 0 hG6
    have fg1 := frz3 1 hG6
    have fg2 := frz3 2 hG6
    have hSi : (W.drew.cell? ⟨T, 0, none⟩ = some (.slice a' fs.length c') ∧ W.drew.cell? ⟨T, 1, none⟩ = some (.int .i64 max) ∧ W.drew.cell? ⟨F, 0, none⟩ = some (.string f.n) ∧ W.drew.cell? ⟨F, 1, none⟩ = some (.string f.v) ∧ W.drew.cell? ⟨F, 2, none⟩ = some (.bool f.q)) := ⟨drew_cell i0, drew_cell i1, drew_cell i2, drew_cell i3, drew_cell i4⟩
    have hSd' : (((W.setCell ⟨w.heap.size, 0, none⟩ (.slice a' fs.length c')).setCell ⟨w.heap.size, 1, none⟩ (.int .i64 max)).cell? ⟨T, 0, none⟩ = some (.slice a' fs.length c') ∧ ((W.setCell ⟨w.heap.size, 0, none⟩ (.slice a' fs.length c')).setCell ⟨w.heap.size, 1, none⟩ (.int .i64 max)).cell? ⟨T, 1, none⟩ = some (.int .i64 max) ∧ ((W.setCell ⟨w.heap.size, 0, none⟩ (.slice a' fs.length c')).setCell ⟨w.heap.size, 1, none⟩ (.int .i64 max)).cell? ⟨F, 0, none⟩ = some (.string f.n) ∧ ((W.setCell ⟨w.heap.size, 0, none⟩ (.slice a' fs.length c')).setCell ⟨w.heap.size, 1, none⟩ (.int .i64 max)).cell? ⟨F, 1, none⟩ = some (.string f.v) ∧ ((W.setCell ⟨w.heap.size, 0, none⟩ (.slice a' fs.length c')).setCell ⟨w.heap.size, 1, none⟩ (.int .i64 max)).cell? ⟨F, 2, none⟩ = some (.bool f.q)) := ⟨cs2 (show T ≠ w.heap.size by omega) i0, cs2 (show T ≠ w.heap.size by omega) i1, cs2 (show F ≠ w.heap.size by omega) i2, cs2 (show F ≠ w.heap.size by omega) i3, cs2 (show F ≠ w.heap.size by omega) i4⟩
    have hSd : (((W.setCell ⟨w.heap.size, 0, none⟩ (.slice a' fs.length c')).setCell ⟨w.heap.size, 1, none⟩ (.int .i64 max)).drew.cell? ⟨T, 0, none⟩ = some (.slice a' fs.length c') ∧ ((W.setCell ⟨w.heap.size, 0, none⟩ (.slice a' fs.length c')).setCell ⟨w.heap.size, 1, none⟩ (.int .i64 max)).drew.cell? ⟨T, 1, none⟩ = some (.int .i64 max) ∧ ((W.setCell ⟨w.heap.size, 0, none⟩ (.slice a' fs.length c')).setCell ⟨w.heap.size, 1, none⟩ (.int .i64 max)).drew.cell? ⟨F, 0, none⟩ = some (.string f.n) ∧ ((W.setCell ⟨w.heap.size, 0, none⟩ (.slice a' fs.length c')).setCell ⟨w.heap.size, 1, none⟩ (.int .i64 max)).drew.cell? ⟨F, 1, none⟩ = some (.string f.v) ∧ ((W.setCell ⟨w.heap.size, 0, none⟩ (.slice a' fs.length c')).setCell ⟨w.heap.size, 1, none⟩ (.int .i64 max)).drew.cell? ⟨F, 2, none⟩ = some (.bool f.q)) := ⟨drew_cell hSd'.1, drew_cell hSd'.2.1, drew_cell hSd'.2.2.1, drew_cell hSd'.2.2.2.1, drew_cell hSd'.2.2.2.2⟩
    have hSe' : ((((((W.setCell ⟨w.heap.size, 0, none⟩ (.slice a' fs.length c')).setCell ⟨w.heap.size, 1, none⟩ (.int .i64 max)).setCell ⟨w.heap.size + 1, 0, none⟩ (.string f.n)).setCell ⟨w.heap.size + 1, 1, none⟩ (.string f.v)).setCell ⟨w.heap.size + 1, 2, none⟩ (.bool f.q)).cell? ⟨T, 0, none⟩ = some (.slice a' fs.length c') ∧ (((((W.setCell ⟨w.heap.size, 0, none⟩ (.slice a' fs.length c')).setCell ⟨w.heap.size, 1, none⟩ (.int .i64 max)).setCell ⟨w.heap.size + 1, 0, none⟩ (.string f.n)).setCell ⟨w.heap.size + 1, 1, none⟩ (.string f.v)).setCell ⟨w.heap.size + 1, 2, none⟩ (.bool f.q)).cell? ⟨T, 1, none⟩ = some (.int .i64 max) ∧ (((((W.setCell ⟨w.heap.size, 0, none⟩ (.slice a' fs.length c')).setCell ⟨w.heap.size, 1, none⟩ (.int .i64 max)).setCell ⟨w.heap.size + 1, 0, none⟩ (.string f.n)).setCell ⟨w.heap.size + 1, 1, none⟩ (.string f.v)).setCell ⟨w.heap.size + 1, 2, none⟩ (.bool f.q)).cell? ⟨F, 0, none⟩ = some (.string f.n) ∧ (((((W.setCell ⟨w.heap.size, 0, none⟩ (.slice a' fs.length c')).setCell ⟨w.heap.size, 1, none⟩ (.int .i64 max)).setCell ⟨w.heap.size + 1, 0, none⟩ (.string f.n)).setCell ⟨w.heap.size + 1, 1, none⟩ (.string f.v)).setCell ⟨w.heap.size + 1, 2, none⟩ (.bool f.q)).cell? ⟨F, 1, none⟩ = some (.string f.v) ∧ (((((W.setCell ⟨w.heap.size, 0, none⟩ (.slice a' fs.length c')).setCell ⟨w.heap.size, 1, none⟩ (.int .i64 max)).setCell ⟨w.heap.size + 1, 0, none⟩ (.string f.n)).setCell ⟨w.heap.size + 1, 1, none⟩ (.string f.v)).setCell ⟨w.heap.size + 1, 2, none⟩ (.bool f.q)).cell? ⟨F, 2, none⟩ = some (.bool f.q)) := ⟨cs3 (show T ≠ w.heap.size + 1 by omega) hSd'.1, cs3 (show T ≠ w.heap.size + 1 by omega) hSd'.2.1, cs3 (show F ≠ w.heap.size + 1 by omega) hSd'.2.2.1, cs3 (show F ≠ w.heap.size + 1 by omega) hSd'.2.2.2.1, cs3 (show F ≠ w.heap.size + 1 by omega) hSd'.2.2.2.2⟩
    have hSe : ((((((W.setCell ⟨w.heap.size, 0, none⟩ (.slice a' fs.length c')).setCell ⟨w.heap.size, 1, none⟩ (.int .i64 max)).setCell ⟨w.heap.size + 1, 0, none⟩ (.string f.n)).setCell ⟨w.heap.size + 1, 1, none⟩ (.string f.v)).setCell ⟨w.heap.size + 1, 2, none⟩ (.bool f.q)).drew.cell? ⟨T, 0, none⟩ = some (.slice a' fs.length c') ∧ (((((W.setCell ⟨w.heap.size, 0, none⟩ (.slice a' fs.length c')).setCell ⟨w.heap.size, 1, none⟩ (.int .i64 max)).setCell ⟨w.heap.size + 1, 0, none⟩ (.string f.n)).setCell ⟨w.heap.size + 1, 1, none⟩ (.string f.v)).setCell ⟨w.heap.size + 1, 2, none⟩ (.bool f.q)).drew.cell? ⟨T, 1, none⟩ = some (.int .i64 max) ∧ (((((W.setCell ⟨w.heap.size, 0, none⟩ (.slice a' fs.length c')).setCell ⟨w.heap.size, 1, none⟩ (.int .i64 max)).setCell ⟨w.heap.size + 1, 0, none⟩ (.string f.n)).setCell ⟨w.heap.size + 1, 1, none⟩ (.string f.v)).setCell ⟨w.heap.size + 1, 2, none⟩ (.bool f.q)).drew.cell? ⟨F, 0, none⟩ = some (.string f.n) ∧ (((((W.setCell ⟨w.heap.size, 0, none⟩ (.slice a' fs.length c')).setCell ⟨w.heap.size, 1, none⟩ (.int .i64 max)).setCell ⟨w.heap.size + 1, 0, none⟩ (.string f.n)).setCell ⟨w.heap.size + 1, 1, none⟩ (.string f.v)).setCell ⟨w.heap.size + 1, 2, none⟩ (.bool f.q)).drew.cell? ⟨F, 1, none⟩ = some (.string f.v) ∧ (((((W.setCell ⟨w.heap.size, 0, none⟩ (.slice a' fs.length c')).setCell ⟨w.heap.size, 1, none⟩ (.int .i64 max)).setCell ⟨w.heap.size + 1, 0, none⟩ (.string f.n)).setCell ⟨w.heap.size + 1, 1, none⟩ (.string f.v)).setCell ⟨w.heap.size + 1, 2, none⟩ (.bool f.q)).drew.cell? ⟨F, 2, none⟩ = some (.bool f.q)) := ⟨drew_cell hSe'.1, drew_cell hSe'.2.1, drew_cell hSe'.2.2.1, drew_cell hSe'.2.2.2.1, drew_cell hSe'.2.2.2.2⟩
    clear hSd' hSe'
    go_region_held3 (fun w' => w'.cell? ⟨T, 0, none⟩ = some (.slice a' fs.length c') ∧ w'.cell? ⟨T, 1, none⟩ = some (.int .i64 max) ∧ w'.cell? ⟨F, 0, none⟩ = some (.string f.n) ∧ w'.cell? ⟨F, 1, none⟩ = some (.string f.v) ∧ w'.cell? ⟨F, 2, none⟩ = some (.bool f.q)) (with_reducible assumption) (fail)
    have hne1 := not_rowT hRW (by decide) hOW
    have hOx := own_setT (own_setT hOW ⟨w.heap.size, 0, none⟩ (.slice a' fs.length c') hne1) ⟨w.heap.size, 1, none⟩ (.int .i64 max) hne1
    have hne2 : some (w.heap.size + 1) ≠ (Value.slice a' fs.length c').ownBlock := fun e => by have := (hOx.lt _ e.symm).1; omega
    have hOz := own_setT (own_setT (own_setT hOx ⟨w.heap.size + 1, 0, none⟩ (.string f.n) hne2) ⟨w.heap.size + 1, 1, none⟩ (.string f.v) hne2) ⟨w.heap.size + 1, 2, none⟩ (.bool f.q) hne2
    have hRz := hs3 (x := .string f.n) (y := .string f.v) (z := .bool f.q) (show w.heap.size ≠ w.heap.size + 1 by omega) (set2_heap (.slice a' fs.length c') (.int .i64 max) hRW)
    have hGz := set3_full (.string f.n) (.string f.v) (.bool f.q) hG6
    have hBz := ((((hBW.setCell (p := ⟨w.heap.size, 0, none⟩) (Nat.le_refl _) (.slice a' fs.length c')).setCell (p := ⟨w.heap.size, 1, none⟩) (Nat.le_refl _) (.int .i64 max)).setCell (p := ⟨w.heap.size + 1, 0, none⟩) (Nat.le_succ _) (.string f.n)).setCell (p := ⟨w.heap.size + 1, 1, none⟩) (Nat.le_succ _) (.string f.v)).setCell (p := ⟨w.heap.size + 1, 2, none⟩) (Nat.le_succ _) (.bool f.q)
    refine wabsE (fun Z => Z.heap[w.heap.size]? = some (.cells #[.slice a' fs.length c', .int .i64 max] 25 (0, 0)) ∧ Z.heap[w.heap.size + 1]? = some (.cells #[.string f.n, .string f.v, .bool f.q] 35 (0, 0)) ∧ Fs Z a' fs.length c' fs ∧ Below w.heap.size w Z) ⟨drew_heap hRz, drew_heap hGz, (own_Fs hOz).below ((Below.refl _ _).drew), hBz.drew⟩ ?_
    rintro Z ⟨hRq, hGq, hFq, hBq⟩
    clear hRz hGz hOz hBz hOx hSi hSd hSe hG6 hTW hFW hRW hGW hOW hBW i0 i1 i2 i3 i4 r0 r1 g0 g1 g2 fr0 fr1 fg0 fg1 fg2
    go_wp2
    exact bodyPost_ret (results_cell_cell rfl _ _ w.heap.size (w.heap.size + 1) #[.slice a' fs.length c', .int .i64 max] #[.string f.n, .string f.v, .bool f.q] rfl rfl (load_tab hRq) (load_fld hGq)) rfl ⟨fs, max, _, c', f, rfl, ⟨by omega, HSM.out, m0, m1, hFq⟩, hfn, hfv, hBq⟩
  · have hz' : (0 : Int) < (fs.length : Int) := by omega
    have hz3 : decide (0 < (fs.length : Int)) = true := by rw [decide_eq_true_eq]; omega
    have hz4 : 0 < fs.length := by omega
    go_wp2_with fail
    try rw [hF]
    refine (pick_st2 (w.heap.size + 1 + 1) 1070 3 _ _ s4.self (by omega) (by decide)).mono ?_
    rintro e w5 ⟨v5, rfl, v50, v51, k5, _⟩
    have hT5 := k5.blk hT4 (by omega)
    have hF5 := k5.blk hF4 (by omega)
    have hR5 := k5.blk hR4 (by omega)
    have hG5 := k5.blk hG4 (by omega)
    have hB5 := k5.bel hB4 (by omega) hB4.size
    have hO5 := own_st2 hO4 k5 (by omega)
    have s5 : St2 w1 w5 (w.heap.size + 1 + 1) 1071 := s4.step k5
    clear k5 hT4 hF4 hR4 hG4 hB4 hO4 s4 t0 hF
    by_cases e0 : (v5 == 0) = true
    · have hmx : Try.prog.follows .mixedOrders = true := by kernel_rfl
      have sA : St2 w5.drew w5.drew (w.heap.size + 1 + 1) 1071 := (s5.grow ((Below.refl _ _).drew)).self
      have hTd : w5.drew.heap[T]? = some (.cells #[.slice a' fs.length c', .int .i64 max] 25 (0, 0)) := hT5
      have hFd : w5.drew.heap[F]? = some (.cells #[.string f.n, .string f.v, .bool f.q] 35 (0, 0)) := hF5
      have hRd : w5.drew.heap[w.heap.size]? = some (.cells #[.slice none 0 0, .int .i64 0] 25 (0, 0)) := hR5
      have hGd : w5.drew.heap[w.heap.size + 1]? = some (.cells #[.string ⟨#[]⟩, .string ⟨#[]⟩, .bool false] 35 (0, 0)) := hG5
      have hOd : w5.drew.ownsRow w1.heap.size 35 3 (.slice a' fs.length c') fs.length (cellsF fs) := hO5
      have hBd : Below w.heap.size w w5.drew := hB5.drew
      have p0 := cell_of_row _ _ 0 _ _ _ hTd
      obtain ⟨gT, oT, rfl⟩ := (own_Fs hOd).some' hz4
      have hFT : F ≠ T := by omega
      clear s5 hT5 hF5 hR5 hG5 hO5 hB5
      go_wp2
      go_region_law ((go_simp; refine (pick_st2 (w.heap.size + 1 + 1) 1071 (fs.length : Int) _ _ sA (by omega) (by omega)).mono ?_; clear sA; rintro e wN ⟨vN, rfl, vN0, vN1, kN, _⟩; obtain ⟨kn, rfl⟩ : ∃ kn : Nat, vN = (kn : Int) := ⟨vN.toNat, (by omega)⟩; have hTN := kN.blk hTd (by omega); have hFN := kN.blk hFd (by omega); have hRN := kN.blk hRd (by omega); have hGN := kN.blk hGd (by omega); have hBN := kN.bel hBd (by omega) hBd.size; have hON := own_st2 hOd kN (by omega); have q0 := cell_of_row _ _ 0 _ _ _ hTN; have hkn : kn < fs.length := (by omega); have hknI : (kn : Int) < (fs.length : Int) := (by omega); have hkn0 : (0 : Int) ≤ kn := (by omega); obtain ⟨d0, d1, d2⟩ := (own_Fs hON).at kn hkn; obtain ⟨y, hy⟩ : ∃ y, fs[kn] = y := ⟨_, rfl⟩; rw [hy] at d0 d1 d2; obtain ⟨z0, z1, z2⟩ := row3c hFN; have f0 := frz3 0 hFN; have f1 := frz3 1 hFN; have f2 := frz3 2 hFN))
      all_goals
        have hyb := HSM.out y (by rw [← hy]; exact List.getElem_mem hkn)
        have hne : some F ≠ (Value.slice (some ⟨gT, oT, none⟩) fs.length c').ownBlock := fun e => hFO.out e
        have hFy := set3_full (.string y.n) (.string y.v) (.bool y.q) hFN
        have hTy := hs3 (x := .string y.n) (y := .string y.v) (z := .bool y.q) (show T ≠ F by omega) hTN
        have hRy := hs3 (x := .string y.n) (y := .string y.v) (z := .bool y.q) (show w.heap.size ≠ F by omega) hRN
        have hGy := hs3 (x := .string y.n) (y := .string y.v) (z := .bool y.q) (show w.heap.size + 1 ≠ F by omega) hGN
        have hOy := own_setT (own_setT (own_setT hON ⟨F, 0, none⟩ (.string y.n) hne) ⟨F, 1, none⟩ (.string y.v) hne) ⟨F, 2, none⟩ (.bool y.q) hne
        have hBy := ((hBN.setCell (p := ⟨F, 0, none⟩) (show w.heap.size ≤ F by omega) (.string y.n)).setCell (p := ⟨F, 1, none⟩) (show w.heap.size ≤ F by omega) (.string y.v)).setCell (p := ⟨F, 2, none⟩) (show w.heap.size ≤ F by omega) (.bool y.q)
        go_wp2
        refine wabs (fun W => W.heap[T]? = some (.cells #[.slice (some ⟨gT, oT, none⟩) fs.length c', .int .i64 max] 25 (0, 0)) ∧ W.heap[F]? = some (.cells #[.string y.n, .string y.v, .bool y.q] 35 (0, 0)) ∧ W.heap[w.heap.size]? = some (.cells #[.slice none 0 0, .int .i64 0] 25 (0, 0)) ∧ W.heap[w.heap.size + 1]? = some (.cells #[.string ⟨#[]⟩, .string ⟨#[]⟩, .bool false] 35 (0, 0)) ∧ W.ownsRow w1.heap.size 35 3 (.slice (some ⟨gT, oT, none⟩) fs.length c') fs.length (cellsF fs) ∧ Below w.heap.size w W) ⟨hTy, hFy, hRy, hGy, hOy, hBy⟩ ?_
        clear hTy hFy hRy hGy hOy hBy hTN hFN hRN hGN hON hBN kN q0 d0 d1 d2 z0 z1 z2 f0 f1 f2 hy p0 hTd hFd hRd hGd hOd hBd
        rintro W ⟨hTW, hFW, hRW, hGW, hOW, hBW⟩
        have hmx : Try.prog.follows .mixedOrders = true := by kernel_rfl
        have hRl := (Array.getElem?_eq_some_iff.1 hRW).1
        obtain ⟨i0, i1⟩ := row2c hTW
        obtain ⟨i2, i3, i4⟩ := row3c hFW
        obtain ⟨r0, r1⟩ := row2c hRW
        have fr0 := frz3 0 hRW
        have fr1 := frz3 1 hRW
        have hG6 := hs2 (x := .slice (some ⟨gT, oT, none⟩) fs.length c') (y := .int .i64 max) (show w.heap.size + 1 ≠ w.heap.size by omega) hGW
        obtain ⟨g0, g1, g2⟩ := row3c hG6
        have fg0 := frz3 0 hG6
        have fg1 := frz3 1 hG6
        have fg2 := frz3 2 hG6
        have hSi : (W.drew.cell? ⟨T, 0, none⟩ = some (.slice (some ⟨gT, oT, none⟩) fs.length c') ∧ W.drew.cell? ⟨T, 1, none⟩ = some (.int .i64 max) ∧ W.drew.cell? ⟨F, 0, none⟩ = some (.string y.n) ∧ W.drew.cell? ⟨F, 1, none⟩ = some (.string y.v) ∧ W.drew.cell? ⟨F, 2, none⟩ = some (.bool y.q)) := ⟨drew_cell i0, drew_cell i1, drew_cell i2, drew_cell i3, drew_cell i4⟩
        have hSd' : (((W.setCell ⟨w.heap.size, 0, none⟩ (.slice (some ⟨gT, oT, none⟩) fs.length c')).setCell ⟨w.heap.size, 1, none⟩ (.int .i64 max)).cell? ⟨T, 0, none⟩ = some (.slice (some ⟨gT, oT, none⟩) fs.length c') ∧ ((W.setCell ⟨w.heap.size, 0, none⟩ (.slice (some ⟨gT, oT, none⟩) fs.length c')).setCell ⟨w.heap.size, 1, none⟩ (.int .i64 max)).cell? ⟨T, 1, none⟩ = some (.int .i64 max) ∧ ((W.setCell ⟨w.heap.size, 0, none⟩ (.slice (some ⟨gT, oT, none⟩) fs.length c')).setCell ⟨w.heap.size, 1, none⟩ (.int .i64 max)).cell? ⟨F, 0, none⟩ = some (.string y.n) ∧ ((W.setCell ⟨w.heap.size, 0, none⟩ (.slice (some ⟨gT, oT, none⟩) fs.length c')).setCell ⟨w.heap.size, 1, none⟩ (.int .i64 max)).cell? ⟨F, 1, none⟩ = some (.string y.v) ∧ ((W.setCell ⟨w.heap.size, 0, none⟩ (.slice (some ⟨gT, oT, none⟩) fs.length c')).setCell ⟨w.heap.size, 1, none⟩ (.int .i64 max)).cell? ⟨F, 2, none⟩ = some (.bool y.q)) := ⟨cs2 (show T ≠ w.heap.size by omega) i0, cs2 (show T ≠ w.heap.size by omega) i1, cs2 (show F ≠ w.heap.size by omega) i2, cs2 (show F ≠ w.heap.size by omega) i3, cs2 (show F ≠ w.heap.size by omega) i4⟩
        have hSd : (((W.setCell ⟨w.heap.size, 0, none⟩ (.slice (some ⟨gT, oT, none⟩) fs.length c')).setCell ⟨w.heap.size, 1, none⟩ (.int .i64 max)).drew.cell? ⟨T, 0, none⟩ = some (.slice (some ⟨gT, oT, none⟩) fs.length c') ∧ ((W.setCell ⟨w.heap.size, 0, none⟩ (.slice (some ⟨gT, oT, none⟩) fs.length c')).setCell ⟨w.heap.size, 1, none⟩ (.int .i64 max)).drew.cell? ⟨T, 1, none⟩ = some (.int .i64 max) ∧ ((W.setCell ⟨w.heap.size, 0, none⟩ (.slice (some ⟨gT, oT, none⟩) fs.length c')).setCell ⟨w.heap.size, 1, none⟩ (.int .i64 max)).drew.cell? ⟨F, 0, none⟩ = some (.string y.n) ∧ ((W.setCell ⟨w.heap.size, 0, none⟩ (.slice (some ⟨gT, oT, none⟩) fs.length c')).setCell ⟨w.heap.size, 1, none⟩ (.int .i64 max)).drew.cell? ⟨F, 1, none⟩ = some (.string y.v) ∧ ((W.setCell ⟨w.heap.size, 0, none⟩ (.slice (some ⟨gT, oT, none⟩) fs.length c')).setCell ⟨w.heap.size, 1, none⟩ (.int .i64 max)).drew.cell? ⟨F, 2, none⟩ = some (.bool y.q)) := ⟨drew_cell hSd'.1, drew_cell hSd'.2.1, drew_cell hSd'.2.2.1, drew_cell hSd'.2.2.2.1, drew_cell hSd'.2.2.2.2⟩
        have hSe' : ((((((W.setCell ⟨w.heap.size, 0, none⟩ (.slice (some ⟨gT, oT, none⟩) fs.length c')).setCell ⟨w.heap.size, 1, none⟩ (.int .i64 max)).setCell ⟨w.heap.size + 1, 0, none⟩ (.string y.n)).setCell ⟨w.heap.size + 1, 1, none⟩ (.string y.v)).setCell ⟨w.heap.size + 1, 2, none⟩ (.bool y.q)).cell? ⟨T, 0, none⟩ = some (.slice (some ⟨gT, oT, none⟩) fs.length c') ∧ (((((W.setCell ⟨w.heap.size, 0, none⟩ (.slice (some ⟨gT, oT, none⟩) fs.length c')).setCell ⟨w.heap.size, 1, none⟩ (.int .i64 max)).setCell ⟨w.heap.size + 1, 0, none⟩ (.string y.n)).setCell ⟨w.heap.size + 1, 1, none⟩ (.string y.v)).setCell ⟨w.heap.size + 1, 2, none⟩ (.bool y.q)).cell? ⟨T, 1, none⟩ = some (.int .i64 max) ∧ (((((W.setCell ⟨w.heap.size, 0, none⟩ (.slice (some ⟨gT, oT, none⟩) fs.length c')).setCell ⟨w.heap.size, 1, none⟩ (.int .i64 max)).setCell ⟨w.heap.size + 1, 0, none⟩ (.string y.n)).setCell ⟨w.heap.size + 1, 1, none⟩ (.string y.v)).setCell ⟨w.heap.size + 1, 2, none⟩ (.bool y.q)).cell? ⟨F, 0, none⟩ = some (.string y.n) ∧ (((((W.setCell ⟨w.heap.size, 0, none⟩ (.slice (some ⟨gT, oT, none⟩) fs.length c')).setCell ⟨w.heap.size, 1, none⟩ (.int .i64 max)).setCell ⟨w.heap.size + 1, 0, none⟩ (.string y.n)).setCell ⟨w.heap.size + 1, 1, none⟩ (.string y.v)).setCell ⟨w.heap.size + 1, 2, none⟩ (.bool y.q)).cell? ⟨F, 1, none⟩ = some (.string y.v) ∧ (((((W.setCell ⟨w.heap.size, 0, none⟩ (.slice (some ⟨gT, oT, none⟩) fs.length c')).setCell ⟨w.heap.size, 1, none⟩ (.int .i64 max)).setCell ⟨w.heap.size + 1, 0, none⟩ (.string y.n)).setCell ⟨w.heap.size + 1, 1, none⟩ (.string y.v)).setCell ⟨w.heap.size + 1, 2, none⟩ (.bool y.q)).cell? ⟨F, 2, none⟩ = some (.bool y.q)) := ⟨cs3 (show T ≠ w.heap.size + 1 by omega) hSd'.1, cs3 (show T ≠ w.heap.size + 1 by omega) hSd'.2.1, cs3 (show F ≠ w.heap.size + 1 by omega) hSd'.2.2.1, cs3 (show F ≠ w.heap.size + 1 by omega) hSd'.2.2.2.1, cs3 (show F ≠ w.heap.size + 1 by omega) hSd'.2.2.2.2⟩
        have hSe : ((((((W.setCell ⟨w.heap.size, 0, none⟩ (.slice (some ⟨gT, oT, none⟩) fs.length c')).setCell ⟨w.heap.size, 1, none⟩ (.int .i64 max)).setCell ⟨w.heap.size + 1, 0, none⟩ (.string y.n)).setCell ⟨w.heap.size + 1, 1, none⟩ (.string y.v)).setCell ⟨w.heap.size + 1, 2, none⟩ (.bool y.q)).drew.cell? ⟨T, 0, none⟩ = some (.slice (some ⟨gT, oT, none⟩) fs.length c') ∧ (((((W.setCell ⟨w.heap.size, 0, none⟩ (.slice (some ⟨gT, oT, none⟩) fs.length c')).setCell ⟨w.heap.size, 1, none⟩ (.int .i64 max)).setCell ⟨w.heap.size + 1, 0, none⟩ (.string y.n)).setCell ⟨w.heap.size + 1, 1, none⟩ (.string y.v)).setCell ⟨w.heap.size + 1, 2, none⟩ (.bool y.q)).drew.cell? ⟨T, 1, none⟩ = some (.int .i64 max) ∧ (((((W.setCell ⟨w.heap.size, 0, none⟩ (.slice (some ⟨gT, oT, none⟩) fs.length c')).setCell ⟨w.heap.size, 1, none⟩ (.int .i64 max)).setCell ⟨w.heap.size + 1, 0, none⟩ (.string y.n)).setCell ⟨w.heap.size + 1, 1, none⟩ (.string y.v)).setCell ⟨w.heap.size + 1, 2, none⟩ (.bool y.q)).drew.cell? ⟨F, 0, none⟩ = some (.string y.n) ∧ (((((W.setCell ⟨w.heap.size, 0, none⟩ (.slice (some ⟨gT, oT, none⟩) fs.length c')).setCell ⟨w.heap.size, 1, none⟩ (.int .i64 max)).setCell ⟨w.heap.size + 1, 0, none⟩ (.string y.n)).setCell ⟨w.heap.size + 1, 1, none⟩ (.string y.v)).setCell ⟨w.heap.size + 1, 2, none⟩ (.bool y.q)).drew.cell? ⟨F, 1, none⟩ = some (.string y.v) ∧ (((((W.setCell ⟨w.heap.size, 0, none⟩ (.slice (some ⟨gT, oT, none⟩) fs.length c')).setCell ⟨w.heap.size, 1, none⟩ (.int .i64 max)).setCell ⟨w.heap.size + 1, 0, none⟩ (.string y.n)).setCell ⟨w.heap.size + 1, 1, none⟩ (.string y.v)).setCell ⟨w.heap.size + 1, 2, none⟩ (.bool y.q)).drew.cell? ⟨F, 2, none⟩ = some (.bool y.q)) := ⟨drew_cell hSe'.1, drew_cell hSe'.2.1, drew_cell hSe'.2.2.1, drew_cell hSe'.2.2.2.1, drew_cell hSe'.2.2.2.2⟩
        clear hSd' hSe'
        go_region_held3 (fun w' => w'.cell? ⟨T, 0, none⟩ = some (.slice (some ⟨gT, oT, none⟩) fs.length c') ∧ w'.cell? ⟨T, 1, none⟩ = some (.int .i64 max) ∧ w'.cell? ⟨F, 0, none⟩ = some (.string y.n) ∧ w'.cell? ⟨F, 1, none⟩ = some (.string y.v) ∧ w'.cell? ⟨F, 2, none⟩ = some (.bool y.q)) (with_reducible assumption) (fail)
        have hne1 := not_rowT hRW (by decide) hOW
        have hOx := own_setT (own_setT hOW ⟨w.heap.size, 0, none⟩ (.slice (some ⟨gT, oT, none⟩) fs.length c') hne1) ⟨w.heap.size, 1, none⟩ (.int .i64 max) hne1
        have hne2 : some (w.heap.size + 1) ≠ (Value.slice (some ⟨gT, oT, none⟩) fs.length c').ownBlock := fun e => by have := (hOx.lt _ e.symm).1; omega
        have hOz := own_setT (own_setT (own_setT hOx ⟨w.heap.size + 1, 0, none⟩ (.string y.n) hne2) ⟨w.heap.size + 1, 1, none⟩ (.string y.v) hne2) ⟨w.heap.size + 1, 2, none⟩ (.bool y.q) hne2
        have hRz := hs3 (x := .string y.n) (y := .string y.v) (z := .bool y.q) (show w.heap.size ≠ w.heap.size + 1 by omega) (set2_heap (.slice (some ⟨gT, oT, none⟩) fs.length c') (.int .i64 max) hRW)
        have hGz := set3_full (.string y.n) (.string y.v) (.bool y.q) hG6
        have hBz := ((((hBW.setCell (p := ⟨w.heap.size, 0, none⟩) (Nat.le_refl _) (.slice (some ⟨gT, oT, none⟩) fs.length c')).setCell (p := ⟨w.heap.size, 1, none⟩) (Nat.le_refl _) (.int .i64 max)).setCell (p := ⟨w.heap.size + 1, 0, none⟩) (Nat.le_succ _) (.string y.n)).setCell (p := ⟨w.heap.size + 1, 1, none⟩) (Nat.le_succ _) (.string y.v)).setCell (p := ⟨w.heap.size + 1, 2, none⟩) (Nat.le_succ _) (.bool y.q)
        refine wabsE (fun Z => Z.heap[w.heap.size]? = some (.cells #[.slice (some ⟨gT, oT, none⟩) fs.length c', .int .i64 max] 25 (0, 0)) ∧ Z.heap[w.heap.size + 1]? = some (.cells #[.string y.n, .string y.v, .bool y.q] 35 (0, 0)) ∧ Fs Z (some ⟨gT, oT, none⟩) fs.length c' fs ∧ Below w.heap.size w Z) ⟨drew_heap hRz, drew_heap hGz, (own_Fs hOz).below ((Below.refl _ _).drew), hBz.drew⟩ ?_
        rintro Z ⟨hRq, hGq, hFq, hBq⟩
        clear hRz hGz hOz hBz hOx hSi hSd hSe hG6 hTW hFW hRW hGW hOW hBW i0 i1 i2 i3 i4 r0 r1 g0 g1 g2 fr0 fr1 fg0 fg1 fg2
        go_wp2
        exact bodyPost_ret (results_cell_cell rfl _ _ w.heap.size (w.heap.size + 1) #[.slice (some ⟨gT, oT, none⟩) fs.length c', .int .i64 max] #[.string y.n, .string y.v, .bool y.q] rfl rfl (load_tab hRq) (load_fld hGq)) rfl ⟨fs, max, _, c', y, rfl, ⟨by omega, HSM.out, m0, m1, hFq⟩, hyb.1, hyb.2, hBq⟩
    · have e0' : (v5 == 0) = false := by simpa using e0
      clear e0
      go_wp2
      refine wabs (fun W => W.heap[T]? = some (.cells #[.slice a' fs.length c', .int .i64 max] 25 (0, 0)) ∧ W.heap[F]? = some (.cells #[.string f.n, .string f.v, .bool f.q] 35 (0, 0)) ∧ W.heap[w.heap.size]? = some (.cells #[.slice none 0 0, .int .i64 0] 25 (0, 0)) ∧ W.heap[w.heap.size + 1]? = some (.cells #[.string ⟨#[]⟩, .string ⟨#[]⟩, .bool false] 35 (0, 0)) ∧ W.ownsRow w1.heap.size 35 3 (.slice a' fs.length c') fs.length (cellsF fs) ∧ Below w.heap.size w W) ⟨hT5, hF5, hR5, hG5, hO5, hB5⟩ ?_
      clear hT5 hF5 hR5 hG5 hO5 hB5 s5
      rintro W ⟨hTW, hFW, hRW, hGW, hOW, hBW⟩
      have hmx : Try.prog.follows .mixedOrders = true := by kernel_rfl
      have hRl := (Array.getElem?_eq_some_iff.1 hRW).1
      obtain ⟨i0, i1⟩ := row2c hTW
      obtain ⟨i2, i3, i4⟩ := row3c hFW
      obtain ⟨r0, r1⟩ := row2c hRW
      have fr0 := frz3 0 hRW
      have fr1 := frz3 1 hRW
      have hG6 := hs2 (x := .slice a' fs.length c') (y := .int .i64 max) (show w.heap.size + 1 ≠ w.heap.size by omega) hGW
      obtain ⟨g0, g1, g2⟩ := row3c hG6
      have fg0 := frz3 0 hG6
      have fg1 := frz3 1 hG6
      have fg2 := frz3 2 hG6
      have hSi : (W.drew.cell? ⟨T, 0, none⟩ = some (.slice a' fs.length c') ∧ W.drew.cell? ⟨T, 1, none⟩ = some (.int .i64 max) ∧ W.drew.cell? ⟨F, 0, none⟩ = some (.string f.n) ∧ W.drew.cell? ⟨F, 1, none⟩ = some (.string f.v) ∧ W.drew.cell? ⟨F, 2, none⟩ = some (.bool f.q)) := ⟨drew_cell i0, drew_cell i1, drew_cell i2, drew_cell i3, drew_cell i4⟩
      have hSd' : (((W.setCell ⟨w.heap.size, 0, none⟩ (.slice a' fs.length c')).setCell ⟨w.heap.size, 1, none⟩ (.int .i64 max)).cell? ⟨T, 0, none⟩ = some (.slice a' fs.length c') ∧ ((W.setCell ⟨w.heap.size, 0, none⟩ (.slice a' fs.length c')).setCell ⟨w.heap.size, 1, none⟩ (.int .i64 max)).cell? ⟨T, 1, none⟩ = some (.int .i64 max) ∧ ((W.setCell ⟨w.heap.size, 0, none⟩ (.slice a' fs.length c')).setCell ⟨w.heap.size, 1, none⟩ (.int .i64 max)).cell? ⟨F, 0, none⟩ = some (.string f.n) ∧ ((W.setCell ⟨w.heap.size, 0, none⟩ (.slice a' fs.length c')).setCell ⟨w.heap.size, 1, none⟩ (.int .i64 max)).cell? ⟨F, 1, none⟩ = some (.string f.v) ∧ ((W.setCell ⟨w.heap.size, 0, none⟩ (.slice a' fs.length c')).setCell ⟨w.heap.size, 1, none⟩ (.int .i64 max)).cell? ⟨F, 2, none⟩ = some (.bool f.q)) := ⟨cs2 (show T ≠ w.heap.size by omega) i0, cs2 (show T ≠ w.heap.size by omega) i1, cs2 (show F ≠ w.heap.size by omega) i2, cs2 (show F ≠ w.heap.size by omega) i3, cs2 (show F ≠ w.heap.size by omega) i4⟩
      have hSd : (((W.setCell ⟨w.heap.size, 0, none⟩ (.slice a' fs.length c')).setCell ⟨w.heap.size, 1, none⟩ (.int .i64 max)).drew.cell? ⟨T, 0, none⟩ = some (.slice a' fs.length c') ∧ ((W.setCell ⟨w.heap.size, 0, none⟩ (.slice a' fs.length c')).setCell ⟨w.heap.size, 1, none⟩ (.int .i64 max)).drew.cell? ⟨T, 1, none⟩ = some (.int .i64 max) ∧ ((W.setCell ⟨w.heap.size, 0, none⟩ (.slice a' fs.length c')).setCell ⟨w.heap.size, 1, none⟩ (.int .i64 max)).drew.cell? ⟨F, 0, none⟩ = some (.string f.n) ∧ ((W.setCell ⟨w.heap.size, 0, none⟩ (.slice a' fs.length c')).setCell ⟨w.heap.size, 1, none⟩ (.int .i64 max)).drew.cell? ⟨F, 1, none⟩ = some (.string f.v) ∧ ((W.setCell ⟨w.heap.size, 0, none⟩ (.slice a' fs.length c')).setCell ⟨w.heap.size, 1, none⟩ (.int .i64 max)).drew.cell? ⟨F, 2, none⟩ = some (.bool f.q)) := ⟨drew_cell hSd'.1, drew_cell hSd'.2.1, drew_cell hSd'.2.2.1, drew_cell hSd'.2.2.2.1, drew_cell hSd'.2.2.2.2⟩
      have hSe' : ((((((W.setCell ⟨w.heap.size, 0, none⟩ (.slice a' fs.length c')).setCell ⟨w.heap.size, 1, none⟩ (.int .i64 max)).setCell ⟨w.heap.size + 1, 0, none⟩ (.string f.n)).setCell ⟨w.heap.size + 1, 1, none⟩ (.string f.v)).setCell ⟨w.heap.size + 1, 2, none⟩ (.bool f.q)).cell? ⟨T, 0, none⟩ = some (.slice a' fs.length c') ∧ (((((W.setCell ⟨w.heap.size, 0, none⟩ (.slice a' fs.length c')).setCell ⟨w.heap.size, 1, none⟩ (.int .i64 max)).setCell ⟨w.heap.size + 1, 0, none⟩ (.string f.n)).setCell ⟨w.heap.size + 1, 1, none⟩ (.string f.v)).setCell ⟨w.heap.size + 1, 2, none⟩ (.bool f.q)).cell? ⟨T, 1, none⟩ = some (.int .i64 max) ∧ (((((W.setCell ⟨w.heap.size, 0, none⟩ (.slice a' fs.length c')).setCell ⟨w.heap.size, 1, none⟩ (.int .i64 max)).setCell ⟨w.heap.size + 1, 0, none⟩ (.string f.n)).setCell ⟨w.heap.size + 1, 1, none⟩ (.string f.v)).setCell ⟨w.heap.size + 1, 2, none⟩ (.bool f.q)).cell? ⟨F, 0, none⟩ = some (.string f.n) ∧ (((((W.setCell ⟨w.heap.size, 0, none⟩ (.slice a' fs.length c')).setCell ⟨w.heap.size, 1, none⟩ (.int .i64 max)).setCell ⟨w.heap.size + 1, 0, none⟩ (.string f.n)).setCell ⟨w.heap.size + 1, 1, none⟩ (.string f.v)).setCell ⟨w.heap.size + 1, 2, none⟩ (.bool f.q)).cell? ⟨F, 1, none⟩ = some (.string f.v) ∧ (((((W.setCell ⟨w.heap.size, 0, none⟩ (.slice a' fs.length c')).setCell ⟨w.heap.size, 1, none⟩ (.int .i64 max)).setCell ⟨w.heap.size + 1, 0, none⟩ (.string f.n)).setCell ⟨w.heap.size + 1, 1, none⟩ (.string f.v)).setCell ⟨w.heap.size + 1, 2, none⟩ (.bool f.q)).cell? ⟨F, 2, none⟩ = some (.bool f.q)) := ⟨cs3 (show T ≠ w.heap.size + 1 by omega) hSd'.1, cs3 (show T ≠ w.heap.size + 1 by omega) hSd'.2.1, cs3 (show F ≠ w.heap.size + 1 by omega) hSd'.2.2.1, cs3 (show F ≠ w.heap.size + 1 by omega) hSd'.2.2.2.1, cs3 (show F ≠ w.heap.size + 1 by omega) hSd'.2.2.2.2⟩
      have hSe : ((((((W.setCell ⟨w.heap.size, 0, none⟩ (.slice a' fs.length c')).setCell ⟨w.heap.size, 1, none⟩ (.int .i64 max)).setCell ⟨w.heap.size + 1, 0, none⟩ (.string f.n)).setCell ⟨w.heap.size + 1, 1, none⟩ (.string f.v)).setCell ⟨w.heap.size + 1, 2, none⟩ (.bool f.q)).drew.cell? ⟨T, 0, none⟩ = some (.slice a' fs.length c') ∧ (((((W.setCell ⟨w.heap.size, 0, none⟩ (.slice a' fs.length c')).setCell ⟨w.heap.size, 1, none⟩ (.int .i64 max)).setCell ⟨w.heap.size + 1, 0, none⟩ (.string f.n)).setCell ⟨w.heap.size + 1, 1, none⟩ (.string f.v)).setCell ⟨w.heap.size + 1, 2, none⟩ (.bool f.q)).drew.cell? ⟨T, 1, none⟩ = some (.int .i64 max) ∧ (((((W.setCell ⟨w.heap.size, 0, none⟩ (.slice a' fs.length c')).setCell ⟨w.heap.size, 1, none⟩ (.int .i64 max)).setCell ⟨w.heap.size + 1, 0, none⟩ (.string f.n)).setCell ⟨w.heap.size + 1, 1, none⟩ (.string f.v)).setCell ⟨w.heap.size + 1, 2, none⟩ (.bool f.q)).drew.cell? ⟨F, 0, none⟩ = some (.string f.n) ∧ (((((W.setCell ⟨w.heap.size, 0, none⟩ (.slice a' fs.length c')).setCell ⟨w.heap.size, 1, none⟩ (.int .i64 max)).setCell ⟨w.heap.size + 1, 0, none⟩ (.string f.n)).setCell ⟨w.heap.size + 1, 1, none⟩ (.string f.v)).setCell ⟨w.heap.size + 1, 2, none⟩ (.bool f.q)).drew.cell? ⟨F, 1, none⟩ = some (.string f.v) ∧ (((((W.setCell ⟨w.heap.size, 0, none⟩ (.slice a' fs.length c')).setCell ⟨w.heap.size, 1, none⟩ (.int .i64 max)).setCell ⟨w.heap.size + 1, 0, none⟩ (.string f.n)).setCell ⟨w.heap.size + 1, 1, none⟩ (.string f.v)).setCell ⟨w.heap.size + 1, 2, none⟩ (.bool f.q)).drew.cell? ⟨F, 2, none⟩ = some (.bool f.q)) := ⟨drew_cell hSe'.1, drew_cell hSe'.2.1, drew_cell hSe'.2.2.1, drew_cell hSe'.2.2.2.1, drew_cell hSe'.2.2.2.2⟩
      clear hSd' hSe'
      go_region_held3 (fun w' => w'.cell? ⟨T, 0, none⟩ = some (.slice a' fs.length c') ∧ w'.cell? ⟨T, 1, none⟩ = some (.int .i64 max) ∧ w'.cell? ⟨F, 0, none⟩ = some (.string f.n) ∧ w'.cell? ⟨F, 1, none⟩ = some (.string f.v) ∧ w'.cell? ⟨F, 2, none⟩ = some (.bool f.q)) (with_reducible assumption) (fail)
      have hne1 := not_rowT hRW (by decide) hOW
      have hOx := own_setT (own_setT hOW ⟨w.heap.size, 0, none⟩ (.slice a' fs.length c') hne1) ⟨w.heap.size, 1, none⟩ (.int .i64 max) hne1
      have hne2 : some (w.heap.size + 1) ≠ (Value.slice a' fs.length c').ownBlock := fun e => by have := (hOx.lt _ e.symm).1; omega
      have hOz := own_setT (own_setT (own_setT hOx ⟨w.heap.size + 1, 0, none⟩ (.string f.n) hne2) ⟨w.heap.size + 1, 1, none⟩ (.string f.v) hne2) ⟨w.heap.size + 1, 2, none⟩ (.bool f.q) hne2
      have hRz := hs3 (x := .string f.n) (y := .string f.v) (z := .bool f.q) (show w.heap.size ≠ w.heap.size + 1 by omega) (set2_heap (.slice a' fs.length c') (.int .i64 max) hRW)
      have hGz := set3_full (.string f.n) (.string f.v) (.bool f.q) hG6
      have hBz := ((((hBW.setCell (p := ⟨w.heap.size, 0, none⟩) (Nat.le_refl _) (.slice a' fs.length c')).setCell (p := ⟨w.heap.size, 1, none⟩) (Nat.le_refl _) (.int .i64 max)).setCell (p := ⟨w.heap.size + 1, 0, none⟩) (Nat.le_succ _) (.string f.n)).setCell (p := ⟨w.heap.size + 1, 1, none⟩) (Nat.le_succ _) (.string f.v)).setCell (p := ⟨w.heap.size + 1, 2, none⟩) (Nat.le_succ _) (.bool f.q)
      refine wabsE (fun Z => Z.heap[w.heap.size]? = some (.cells #[.slice a' fs.length c', .int .i64 max] 25 (0, 0)) ∧ Z.heap[w.heap.size + 1]? = some (.cells #[.string f.n, .string f.v, .bool f.q] 35 (0, 0)) ∧ Fs Z a' fs.length c' fs ∧ Below w.heap.size w Z) ⟨drew_heap hRz, drew_heap hGz, (own_Fs hOz).below ((Below.refl _ _).drew), hBz.drew⟩ ?_
      rintro Z ⟨hRq, hGq, hFq, hBq⟩
      clear hRz hGz hOz hBz hOx hSi hSd hSe hG6 hTW hFW hRW hGW hOW hBW i0 i1 i2 i3 i4 r0 r1 g0 g1 g2 fr0 fr1 fg0 fg1 fg2
      go_wp2
      exact bodyPost_ret (results_cell_cell rfl _ _ w.heap.size (w.heap.size + 1) #[.slice a' fs.length c', .int .i64 max] #[.string f.n, .string f.v, .bool f.q] rfl rfl (load_tab hRq) (load_fld hGq)) rfl ⟨fs, max, _, c', f, rfl, ⟨by omega, HSM.out, m0, m1, hFq⟩, hfn, hfv, hBq⟩
end Go.Proofs.Ytafhpcgdlmkbeae
