import Derived.Test.YtafhpcgdlmkbeayEK
import Derived.Deep.RegionHeld3
namespace Go.Proofs.Ytafhpcgdlmkbeay
open Go.RowKit
set_option linter.unusedVariables false

theorem blkB2 {w w' : World} {B : Nat} {o : Obj} (hb : Below w.heap.size w w') (h : w.heap[B]? = some o) : w'.heap[B]? = some o := (hb.block _ (Array.getElem?_eq_some_iff.1 h).1).trans h
theorem cells_all (C : Array Value) (fs : List Fd) (hC : C.size = fs.length * 3) (h : ∀ j (hj : j < fs.length), atC C j fs[j]) : C.toList = cellsF fs := by
  apply List.ext_getElem?
  intro i
  rw [Array.getElem?_toList]
  by_cases hi : i < fs.length * 3
  · obtain ⟨j, r, hj, hr, rfl⟩ : ∃ j r, j < fs.length ∧ r < 3 ∧ i = j * 3 + r := ⟨i / 3, i % 3, by omega, by omega, by omega⟩
    have ha := h j hj
    have hc := cellsF_at fs j hj
    unfold atC at ha
    rcases (by omega : r = 0 ∨ r = 1 ∨ r = 2) with rfl | rfl | rfl
    · rw [Nat.add_zero, ha.1, hc.1]
    · rw [ha.2.1, hc.2.1]
    · rw [ha.2.2, hc.2.2]
  · rw [Array.getElem?_eq_none (by omega), List.getElem?_eq_none (by rw [cellsF_length]; omega)]

set_option maxRecDepth 100000 in
set_option maxHeartbeats 2000000 in
theorem toFieldS_any (fs : List Fd) (a : Option Addr) (n cap : Nat) (w : World) (hf : FsA w a n cap fs) (hn : n ≤ 1048576) :
    Calls Try.prog 30 #[.slice a n cap] w fun e w' => ∃ v, e = .returned v ∧ w'.ownsRow w.heap.size 37 3 v n (cellsF fs) ∧ Below w.heap.size w w' := by
  have HF : Hid (FsA w a n cap fs) := hf
  have hlen := hf.len
  clear hf
  obtain ⟨ii, hi, hz0, hz1, hz2⟩ := info_parts infoF
  have hmk := fun w => run_make (P := Try.prog) w 27 37 ii (.agg #[.string ⟨#[]⟩, .string ⟨#[]⟩, .bool false]) Try.underlying27 hi hz0 .i64 .i64 (n : Int) (n : Int) (by omega) (by omega) (by rw [hz2]; omega) (by omega)
  obtain ⟨M, hM⟩ : ∃ M, madeCells (Value.agg #[.string ⟨#[]⟩, .string ⟨#[]⟩, .bool false]).cells (((n : Nat) : Int).toNat * ii.size) = M := ⟨_, rfl⟩
  have hMs : M.size = n * 3 := by rw [← hM, size_madeCells, hz1]; simp
  rw [hM] at hmk
  simp only [Int.toNat_natCast] at hmk
  have HA : Hid ((w.alloc (.cells M 37)).heap[w.heap.size]? = some (.cells M 37 (0, 0))) := heap_alloc_last w _
  have HM : Hid (M.size = n * 3) := hMs
  clear hM hMs
  go_enter Try.func30, Try.ntmps30
  go_wp2
  go_loopw [4] (fun i wr => ∃ (k : Nat) (C : Array Value), k ≤ n ∧ i = .int .i64 k ∧ wr.heap[w.heap.size]? = some (.cells C 37 (0, 0)) ∧ C.size = n * 3 ∧ (∀ j (hj : j < fs.length), j < k → atC C j fs[j]) ∧ Below w.heap.size w wr) (fun i _ => n - (intOf i).toNat)
  case atStart => exact ⟨0, M, by omega, rfl, HA.out, HM.out, fun j hj h => absurd h (by omega), (Below.refl _ _).alloc (Nat.le_refl _) _⟩
  case round =>
    clear hmk
    obtain ⟨k, C, hk, rfl, hC, hCs, hat, hbel⟩ := hrel
    have HAT : Hid (∀ j (hj : j < fs.length), j < k → atC C j fs[j]) := hat
    clear hat
    by_cases hlt : k < n
    · have hlt' : (k : Int) < n := by omega
      have hk0 : (0 : Int) ≤ k := by omega
      have hkl : k < fs.length := by omega
      obtain ⟨g, o, rfl, c0, c1, c2⟩ := (HF.out.below hbel).at k hkl
      obtain ⟨f, hff⟩ : ∃ f, fs[k] = f := ⟨_, rfl⟩
      rw [hff] at c0 c1 c2
      have HFF : Hid (fs[k] = f) := hff
      have htf := fun w => toField_any f w
      unfold Fd.val at htf
      clear hff
      go_wp2_with (go_at_call 15; refine (htf _).mono ?_; clear htf; rintro e w1 ⟨rfl, hb1⟩; have hC1 := blkB2 hb1 hC; obtain ⟨x, y, z, p0, p1, p2, f0, f1, f2⟩ := rowP hC1 hCs hlt)
      go_roundw
      case rel =>
        refine ⟨k + 1, set3C C k f, by omega, by go_num, set3C_heap f hC1, by rw [set3C_size]; exact hCs, ?_, ?_⟩
        · intro j hj hjk
          by_cases e : k = j
          · subst e
            rw [HFF.out]
            exact set3C_at C k n f hlt hCs
          · exact set3C_other C k j f _ e (HAT.out j hj (by omega))
        · have hb2 := bt' hbel hb1
          exact ((hb2.setCell (p := ⟨w.heap.size, k * 3, none⟩) (Nat.le_refl _) _).setCell (p := ⟨w.heap.size, k * 3 + 1, none⟩) (Nat.le_refl _) _).setCell (p := ⟨w.heap.size, k * 3 + 2, none⟩) (Nat.le_refl _) _
      case measure => simp [intOf]; omega
    · have HL : Hid (C.toList = cellsF fs) := cells_all C fs (by omega) (fun j hj => HAT.out j hj (by omega))
      go_wp2
      go_ret
      refine ⟨_, rfl, ⟨by rw [cellsF_length, hlen], .inr ⟨w.heap.size, n, C, rfl, Nat.le_refl _, hC, Nat.le_refl _, by unfold maxLen; omega, hCs, ?_⟩⟩, hbel⟩
      rw [HL.out, List.take_of_length_le (by rw [cellsF_length, hlen]; omega)]

set_option maxRecDepth 100000 in
set_option maxHeartbeats 1000000 in
theorem toTable_any (fs : List Fd) (a : Option Addr) (n cap : Nat) (max : Int) (w : World) (hf : FsA w a n cap fs) (hn : n ≤ 1048576) :
    Calls Try.prog 10 #[.agg #[.slice a n cap, .int .i64 max]] w (TabAns w (fs, max)) := by
  have hlen := hf.len
  have hb0 : Below w.heap.size w (((w.alloc (.cells #[.slice a n cap, .int .i64 max] 24)).alloc (.cells #[.slice none 0 0, .int .i64 0] 29)).alloc (.cells #[.slice none 0 0, .int .i64 0] 29)) := (((Below.refl _ _).alloc (Nat.le_refl _) _).alloc (by simp) _).alloc (by simp; omega) _
  have hto := toFieldS_any fs a n cap _ (hf.below hb0) hn
  have hA : Hid ((((w.alloc (.cells #[.slice a n cap, .int .i64 max] 24)).alloc (.cells #[.slice none 0 0, .int .i64 0] 29)).alloc (.cells #[.slice none 0 0, .int .i64 0] 29)).heap[w.heap.size]? = some (.cells #[.slice a n cap, .int .i64 max] 24 (0, 0))) := blkT (blkT (heap_alloc_last w _) _) _
  have hR : Hid ((((w.alloc (.cells #[.slice a n cap, .int .i64 max] 24)).alloc (.cells #[.slice none 0 0, .int .i64 0] 29)).alloc (.cells #[.slice none 0 0, .int .i64 0] 29)).heap[w.heap.size + 1]? = some (.cells #[.slice none 0 0, .int .i64 0] 29 (0, 0))) := by
    have h := heap_alloc_last (w.alloc (.cells #[.slice a n cap, .int .i64 max] 24)) (.cells #[.slice none 0 0, .int .i64 0] 29)
    rw [World.size_alloc] at h
    exact blkT h _
  have hO : Hid ((((w.alloc (.cells #[.slice a n cap, .int .i64 max] 24)).alloc (.cells #[.slice none 0 0, .int .i64 0] 29)).alloc (.cells #[.slice none 0 0, .int .i64 0] 29)).heap[w.heap.size + 1 + 1]? = some (.cells #[.slice none 0 0, .int .i64 0] 29 (0, 0))) := by
    have h := heap_alloc_last ((w.alloc (.cells #[.slice a n cap, .int .i64 max] 24)).alloc (.cells #[.slice none 0 0, .int .i64 0] 29)) (.cells #[.slice none 0 0, .int .i64 0] 29)
    rw [World.size_alloc, World.size_alloc] at h
    exact h
  clear hf
  go_enter Try.func10, Try.ntmps10
  go_wp2_with fail
  refine hto.mono ?_
  rintro e w1 ⟨v1, rfl, hown, hb1⟩
  obtain ⟨a1, c1, rfl⟩ := own_formT hown
  have hA1 := blkB2 hb1 hA.out
  have hR1 := blkB2 hb1 hR.out
  have hO1 := blkB2 hb1 hO.out
  have hB1 := bt' hb0 hb1
  have z0 := cell_of_row _ _ 0 _ _ _ hO1
  have f0 := frz 0 hO1
  have hO2 : (w1.setCell ⟨w.heap.size + 1 + 1, 0, none⟩ (.slice a1 n c1)).heap[w.heap.size + 1 + 1]? = some (.cells #[.slice a1 n c1, .int .i64 0] 29 (0, 0)) := setC_heap 0 (.slice a1 n c1) hO1
  have hA2 := setC_other 0 (.slice a1 n c1) (show w.heap.size ≠ w.heap.size + 1 + 1 by omega) hA1
  have hR2 := setC_other 0 (.slice a1 n c1) (show w.heap.size + 1 ≠ w.heap.size + 1 + 1 by omega) hR1
  have t1 := cell_of_row _ _ 1 _ _ _ hA2
  have z1 := cell_of_row _ _ 1 _ _ _ hO2
  have f1 := frz 1 hO2
  have hO3 : ((w1.setCell ⟨w.heap.size + 1 + 1, 0, none⟩ (.slice a1 n c1)).setCell ⟨w.heap.size + 1 + 1, 1, none⟩ (.int .i64 max)).heap[w.heap.size + 1 + 1]? = some (.cells #[.slice a1 n c1, .int .i64 max] 29 (0, 0)) := setC_heap 1 (.int .i64 max) hO2
  have hR3 := setC_other 1 (.int .i64 max) (show w.heap.size + 1 ≠ w.heap.size + 1 + 1 by omega) hR2
  have y0 := cell_of_row _ _ 0 _ _ _ hO3
  have y1 := cell_of_row _ _ 1 _ _ _ hO3
  have hne := not_rowT hO1 (by decide) hown
  have hOw := own_setT (own_setT hown ⟨w.heap.size + 1 + 1, 0, none⟩ (.slice a1 n c1) hne) ⟨w.heap.size + 1 + 1, 1, none⟩ (.int .i64 max) hne
  have hB3 := (hB1.setCell (p := ⟨w.heap.size + 1 + 1, 0, none⟩) (show w.heap.size ≤ w.heap.size + 1 + 1 by omega) (.slice a1 n c1)).setCell (p := ⟨w.heap.size + 1 + 1, 1, none⟩) (show w.heap.size ≤ w.heap.size + 1 + 1 by omega) (.int .i64 max)
  simp at z0 t1 z1 y0 y1
  clear hA1 hA2 hO1 hO2 hto hA hR hO
  go_wp2_with (refine wpList_store_row rfl 29 _ _ rfl (w.heap.size + 1) #[.slice a1 n c1, .int .i64 max] rfl rfl 29 _ hR3 infoT2 rfl (by simp [Value.oneCell']) ?_)
  refine bodyPost_ret (results_cell_row rfl _ _ (w.heap.size + 1) 29 #[.slice a1 n c1, .int .i64 max] (0, 0) _ rfl (setRow_heap _ _ _ _ _ _ hR3) Try.underlying29 rfl infoT2) rfl ⟨_, rfl, ?_, hB3.grown (grown_setRowT _ _ _) hB3.size (fun q hq => by injection hq with hq; omega)⟩
  show World.ownsRow _ w.heap.size 37 3 (.slice a1 n c1) fs.length (cellsF fs)
  rw [hlen]
  exact own_baseT (hOw.kept (grown_setRowT _ _ _) (.inr (fun e => not_rowT hR3 (by decide) hOw e.symm))) (by simp; omega)

set_option maxRecDepth 100000 in
set_option maxHeartbeats 1000000 in
theorem eqField_any (x y : Fd) (w : World) :
    Calls Try.prog 23 #[x.val, y.val] w fun e w' => e = .returned (.bool (eqF x y)) ∧ Below w.heap.size w w' := by
  have hb : Below w.heap.size w ((w.alloc (.cells #[.string x.n, .string x.v, .bool x.q] 37)).alloc (.cells #[.string y.n, .string y.v, .bool y.q] 37)) := ((Below.refl _ _).alloc (Nat.le_refl _) _).alloc (by simp) _
  unfold Fd.val eqF
  cases h1 : (x.n.toList == y.n.toList) with
  | false =>
    rw [Bool.false_and]
    go_enter Try.func23, Try.ntmps23
    go_wp2
    go_ret
    exact ⟨rfl, hb⟩
  | true =>
    rw [Bool.true_and]
    cases h2 : (x.v.toList == y.v.toList) with
    | false =>
      rw [Bool.false_and]
      go_enter Try.func23, Try.ntmps23
      go_wp2
      go_ret
      exact ⟨rfl, hb⟩
    | true =>
      rw [Bool.true_and]
      cases h3 : (x.q == y.q) with
      | false =>
        go_enter Try.func23, Try.ntmps23
        go_wp2
        go_ret
        exact ⟨rfl, hb⟩
      | true =>
        go_enter Try.func23, Try.ntmps23
        go_wp2
        go_ret
        exact ⟨rfl, hb⟩

set_option maxRecDepth 100000 in
set_option maxHeartbeats 2000000 in
theorem eqFieldS_any (fs gs : List Fd) (a a' : Option Addr) (n cap n' cap' : Nat) (w : World) (hf : Fs w a n cap fs) (hg : Fs w a' n' cap' gs) (hn : n ≤ 1048576) (hn' : n' ≤ 1048576) :
    Calls Try.prog 34 #[.slice a n cap, .slice a' n' cap'] w fun e w' => e = .returned (.bool (eqFs fs gs)) ∧ Below w.heap.size w w' := by
  have HF : Hid (Fs w a n cap fs) := hf
  have HG : Hid (Fs w a' n' cap' gs) := hg
  have hl1 := hf.len
  have hl2 := hg.len
  clear hf hg
  obtain ⟨R, hR⟩ : ∃ R, eqFs fs gs = R := ⟨_, rfl⟩
  have HR : Hid (eqFs fs gs = R) := hR
  rw [hR]
  clear hR
  by_cases hnn : n = n'
  · subst hnn
    go_enter Try.func34, Try.ntmps34
    go_wp2
    go_loopw [5] (fun i wr => ∃ k : Nat, k ≤ n ∧ i = .int .i64 k ∧ eqFs fs gs = eqFs (fs.drop k) (gs.drop k) ∧ Below w.heap.size w wr) (fun i _ => n - (intOf i).toNat)
    case atStart => exact ⟨0, by omega, rfl, rfl, Below.refl _ _⟩
    case round =>
      obtain ⟨k, hk, rfl, hq, hbel⟩ := hrel
      have HQ : Hid (eqFs fs gs = eqFs (fs.drop k) (gs.drop k)) := hq
      clear hq
      by_cases hlt : k < n
      · have hlt' : (k : Int) < n := by omega
        have hk0 : (0 : Int) ≤ k := by omega
        have k1 : k < fs.length := by omega
        have k2 : k < gs.length := by omega
        obtain ⟨g, o, rfl⟩ := HF.out.some' (by omega)
        obtain ⟨g', o', rfl⟩ := HG.out.some' (by omega)
        obtain ⟨c0, c1, c2⟩ := (HF.out.below hbel).at k k1
        obtain ⟨d0, d1, d2⟩ := (HG.out.below hbel).at k k2
        have HA : Hid (eqFs (fs.drop k) (gs.drop k) = (eqF fs[k] gs[k] && eqFs (fs.drop (k + 1)) (gs.drop (k + 1)))) := eqFs_at k1 k2
        obtain ⟨x, hx⟩ : ∃ x, fs[k] = x := ⟨_, rfl⟩
        obtain ⟨y, hy⟩ : ∃ y, gs[k] = y := ⟨_, rfl⟩
        rw [hx] at c0 c1 c2 HA
        rw [hy] at d0 d1 d2 HA
        have heq := fun w => eqField_any x y w
        unfold Fd.val at heq
        have hmx : Try.prog.follows .mixedOrders = true := by kernel_rfl
        clear hx hy
        have hkeepV : ∀ w1 w2 : World, Below w1.heap.size w1 w2 → (w1.cell? ⟨g, o + k * 3, none⟩ = some (.string x.n) ∧ w1.cell? ⟨g, o + k * 3 + 1, none⟩ = some (.string x.v) ∧ w1.cell? ⟨g, o + k * 3 + 2, none⟩ = some (.bool x.q) ∧ w1.cell? ⟨g', o' + k * 3, none⟩ = some (.string y.n) ∧ w1.cell? ⟨g', o' + k * 3 + 1, none⟩ = some (.string y.v) ∧ w1.cell? ⟨g', o' + k * 3 + 2, none⟩ = some (.bool y.q) ∧ Below wr.heap.size wr w1) → (w2.cell? ⟨g, o + k * 3, none⟩ = some (.string x.n) ∧ w2.cell? ⟨g, o + k * 3 + 1, none⟩ = some (.string x.v) ∧ w2.cell? ⟨g, o + k * 3 + 2, none⟩ = some (.bool x.q) ∧ w2.cell? ⟨g', o' + k * 3, none⟩ = some (.string y.n) ∧ w2.cell? ⟨g', o' + k * 3 + 1, none⟩ = some (.string y.v) ∧ w2.cell? ⟨g', o' + k * 3 + 2, none⟩ = some (.bool y.q) ∧ Below wr.heap.size wr w2) := by
          rintro w1 w2 hb ⟨h0, h1, h2, h3, h4, h5, hB⟩
          exact ⟨keepc hb h0, keepc hb h1, keepc hb h2, keepc hb h3, keepc hb h4, keepc hb h5, bt' hB hb⟩
        have hBelV : ∀ w' : World, (w'.cell? ⟨g, o + k * 3, none⟩ = some (.string x.n) ∧ w'.cell? ⟨g, o + k * 3 + 1, none⟩ = some (.string x.v) ∧ w'.cell? ⟨g, o + k * 3 + 2, none⟩ = some (.bool x.q) ∧ w'.cell? ⟨g', o' + k * 3, none⟩ = some (.string y.n) ∧ w'.cell? ⟨g', o' + k * 3 + 1, none⟩ = some (.string y.v) ∧ w'.cell? ⟨g', o' + k * 3 + 2, none⟩ = some (.bool y.q) ∧ Below wr.heap.size wr w') → Below wr.heap.size wr w' := fun w' h => h.2.2.2.2.2.2
        have hV0 : wr.cell? ⟨g, o + k * 3, none⟩ = some (.string x.n) ∧ wr.cell? ⟨g, o + k * 3 + 1, none⟩ = some (.string x.v) ∧ wr.cell? ⟨g, o + k * 3 + 2, none⟩ = some (.bool x.q) ∧ wr.cell? ⟨g', o' + k * 3, none⟩ = some (.string y.n) ∧ wr.cell? ⟨g', o' + k * 3 + 1, none⟩ = some (.string y.v) ∧ wr.cell? ⟨g', o' + k * 3 + 2, none⟩ = some (.bool y.q) ∧ Below wr.heap.size wr wr := ⟨c0, c1, c2, d0, d1, d2, Below.refl _ _⟩
        clear c0 c1 c2 d0 d1 d2
        cases hE : eqF x y with
        | true =>
          rw [hE] at HA heq
          have HA2 : Hid (eqFs fs gs = eqFs (fs.drop (k + 1)) (gs.drop (k + 1))) := by show eqFs fs gs = _; rw [HQ.out, HA.out, Bool.true_and]
          clear hE
          go_wp2
          go_region_held3 (fun w' => w'.cell? ⟨g, o + k * 3, none⟩ = some (.string x.n) ∧ w'.cell? ⟨g, o + k * 3 + 1, none⟩ = some (.string x.v) ∧ w'.cell? ⟨g, o + k * 3 + 2, none⟩ = some (.bool x.q) ∧ w'.cell? ⟨g', o' + k * 3, none⟩ = some (.string y.n) ∧ w'.cell? ⟨g', o' + k * 3 + 1, none⟩ = some (.string y.v) ∧ w'.cell? ⟨g', o' + k * 3 + 2, none⟩ = some (.bool y.q) ∧ Below wr.heap.size wr w') (first | assumption | exact hkeepV _ _ ((Below.refl _ _).drew) hV0 | exact hkeepV _ _ hbN (by assumption)) ((first | (go_at_call 23; refine (heq _).mono ?_; clear heq; rintro e wN ⟨rfl, hbN⟩)))
          go_wp2
          go_roundw
          case rel => exact ⟨k + 1, by omega, by go_num, HA2.out, bt' hbel (hBelV _ (by first | assumption | exact hkeepV _ _ hbN (by assumption)))⟩
          case measure => simp [intOf]; omega
        | false =>
          rw [hE] at HA heq
          have HA2 : Hid (R = false) := by show R = false; rw [← HR.out, HQ.out, HA.out, Bool.false_and]
          clear hE
          go_wp2
          go_region_held3 (fun w' => w'.cell? ⟨g, o + k * 3, none⟩ = some (.string x.n) ∧ w'.cell? ⟨g, o + k * 3 + 1, none⟩ = some (.string x.v) ∧ w'.cell? ⟨g, o + k * 3 + 2, none⟩ = some (.bool x.q) ∧ w'.cell? ⟨g', o' + k * 3, none⟩ = some (.string y.n) ∧ w'.cell? ⟨g', o' + k * 3 + 1, none⟩ = some (.string y.v) ∧ w'.cell? ⟨g', o' + k * 3 + 2, none⟩ = some (.bool y.q) ∧ Below wr.heap.size wr w') (first | assumption | exact hkeepV _ _ ((Below.refl _ _).drew) hV0 | exact hkeepV _ _ hbN (by assumption)) ((first | (go_at_call 23; refine (heq _).mono ?_; clear heq; rintro e wN ⟨rfl, hbN⟩)))
          go_wp2
          go_ret
          exact ⟨by rw [HA2.out]; rfl, bt' hbel (hBelV _ (by first | assumption | exact hkeepV _ _ hbN (by assumption)))⟩
      · have HA2 : Hid (R = true) := by
          show R = true
          rw [← HR.out, HQ.out, List.drop_of_length_le (by omega), List.drop_of_length_le (by omega)]; rfl
        go_wp2
        go_ret
        exact ⟨by rw [HA2.out]; rfl, hbel⟩
  · have HA2 : Hid (R = false) := by
      show R = false
      rw [← HR.out]; exact eqFs_len (by omega)
    have hnd : ((n : Int) == (n' : Int)) = false := by simp; omega
    go_enter Try.func34, Try.ntmps34
    go_wp2
    go_ret
    exact ⟨by rw [HA2.out]; rfl, Below.refl _ _⟩

set_option maxRecDepth 100000 in
set_option maxHeartbeats 1000000 in
theorem eqTable_same (fs : List Fd) (a a' : Option Addr) (cap cap' : Nat) (m : Int) (w : World) (hf : Fs w a fs.length cap fs) (hg : Fs w a' fs.length cap' fs) (hn : fs.length ≤ 1048576) :
    Calls Try.prog 12 #[.agg #[.slice a fs.length cap, .int .i64 m], .agg #[.slice a' fs.length cap', .int .i64 m]] w fun e w' => e = .returned (.bool true) ∧ Below w.heap.size w w' := by
  have hb2 : Below w.heap.size w ((w.alloc (.cells #[.slice a fs.length cap, .int .i64 m] 29)).alloc (.cells #[.slice a' fs.length cap', .int .i64 m] 29)) := ((Below.refl _ _).alloc (Nat.le_refl _) _).alloc (by simp) _
  have hT : Hid (((w.alloc (.cells #[.slice a fs.length cap, .int .i64 m] 29)).alloc (.cells #[.slice a' fs.length cap', .int .i64 m] 29)).heap[w.heap.size]? = some (.cells #[.slice a fs.length cap, .int .i64 m] 29 (0, 0))) := blkT (heap_alloc_last w _) _
  have hU : Hid (((w.alloc (.cells #[.slice a fs.length cap, .int .i64 m] 29)).alloc (.cells #[.slice a' fs.length cap', .int .i64 m] 29)).heap[w.heap.size + 1]? = some (.cells #[.slice a' fs.length cap', .int .i64 m] 29 (0, 0))) := by
    have h := heap_alloc_last (w.alloc (.cells #[.slice a fs.length cap, .int .i64 m] 29)) (.cells #[.slice a' fs.length cap', .int .i64 m] 29)
    rw [World.size_alloc] at h
    exact h
  have hlk := eqFieldS_any fs fs a a' _ cap _ cap' _ (hf.below hb2) (hg.below hb2) hn hn
  rw [eqFs_self] at hlk
  clear hf hg
  go_enter Try.func12, Try.ntmps12
  go_wp2_with (go_at_call 34; refine hlk.mono ?_; rintro e w1 ⟨rfl, hb1⟩; obtain ⟨q0, q1⟩ := row2c (blkB2 hb1 hT.out); obtain ⟨q2, q3⟩ := row2c (blkB2 hb1 hU.out))
  go_ret
  exact ⟨rfl, bt' hb2 hb1⟩
end Go.Proofs.Ytafhpcgdlmkbeay
