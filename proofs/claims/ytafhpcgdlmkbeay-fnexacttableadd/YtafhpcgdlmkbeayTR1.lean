import Derived.Test.YtafhpcgdlmkbeayTI1
namespace Go.Proofs.Ytafhpcgdlmkbeay
open Go.RowKit
set_option linter.unusedVariables false

/-- A place in a ring of R places: so many behind the first. -/
def pl (fi a R : Nat) : Nat := if fi + a < R then fi + a else fi + a - R
theorem pl_lt {fi a R : Nat} (h : fi < R) (ha : a ≤ R) : pl fi a R < R := by unfold pl; split <;> omega
theorem pl_mod {fi a R : Nat} (h : fi < R) (ha : a ≤ R) : ((fi : Int) + (a : Int)) % (R : Int) = (pl fi a R : Nat) := by
  unfold pl
  split
  · rw [Int.emod_eq_of_lt (by omega) (by omega)]; omega
  · have : ((fi : Int) + a) = ((fi + a - R : Nat) : Int) + R := by omega
    rw [this, Int.add_emod_right, Int.emod_eq_of_lt (by omega) (by omega)]
theorem pl_inj {fi a b R : Nat} (h : fi < R) (ha : a < R) (hb : b < R) (e : pl fi a R = pl fi b R) : a = b := by
  unfold pl at e
  split at e <;> split at e <;> omega
theorem pl_back {fi a R : Nat} (h : fi < R) (ha : a + 1 ≤ R) : pl (pl fi (R - 1) R) (a + 1) R = pl fi a R := by
  unfold pl
  repeat' split
  all_goals omega
theorem pl_zero {fi R : Nat} (h : fi < R) : pl fi 0 R = fi := by unfold pl; rw [if_pos (by omega)]; omega
/-- The cells of a field that lie at a place. -/
def atC (C : Array Value) (p : Nat) (f : Fd) : Prop := C[p * 3]? = some (.string f.n) ∧ C[p * 3 + 1]? = some (.string f.v) ∧ C[p * 3 + 2]? = some (.bool f.q)
/-- A ring of fields in memory, above base: its head lies at block B, its places at block g. -/
structure Rg (base : Nat) (w : World) (B g R fi : Nat) (L : List Fd) : Prop where
  head : w.heap[B]? = some (.cells #[.slice (some ⟨g, 0, none⟩) R R, .int .i64 fi, .int .i64 L.length] 68 (0, 0))
  places : ∃ C, w.heap[g]? = some (.cells C 37 (0, 0)) ∧ C.size = R * 3 ∧ ∀ j (h : j < L.length), atC C (pl fi j R) L[j]
  hB : base ≤ B
  hg : base ≤ g
  ne : B ≠ g
  fiR : fi < R
  le : L.length ≤ R
  rm : R ≤ 1000
theorem Rg.below {base : Nat} {w w' : World} {B g R fi : Nat} {L : List Fd} (h : Rg base w B g R fi L) (hb : Below w.heap.size w w') : Rg base w' B g R fi L := by
  obtain ⟨C, hC, h2⟩ := h.places
  exact ⟨(hb.block _ (Array.getElem?_eq_some_iff.1 h.head).1).trans h.head, ⟨C, (hb.block _ (Array.getElem?_eq_some_iff.1 hC).1).trans hC, h2⟩, h.hB, h.hg, h.ne, h.fiR, h.le, h.rm⟩
theorem Rg.drewN {base : Nat} {w : World} {B g R fi : Nat} {L : List Fd} (h : Rg base w B g R fi L) (n : Nat) : Rg base (w.drewN n) B g R fi L :=
  ⟨h.head, h.places, h.hB, h.hg, h.ne, h.fiR, h.le, h.rm⟩

set_option maxRecDepth 100000 in
set_option maxHeartbeats 400000 in
theorem place_any (B g R fi a : Nat) (x : Value) (w : World) (h : w.heap[B]? = some (.cells #[.slice (some ⟨g, 0, none⟩) R R, .int .i64 fi, x] 68 (0, 0))) (hfi : fi < R) (ha : a ≤ R) (hR : R ≤ 1000) :
    Calls Try.prog 52 #[.pointer (some ⟨B, 0, none⟩), .int .i64 a] w fun e w' => e = .returned (.int .i64 (pl fi a R : Nat)) ∧ ∃ n, w' = w.drewN n := by
  have c0 := cell_of_row _ _ 0 _ _ _ h
  have c1 := cell_of_row _ _ 1 _ _ _ h
  simp at c0 c1
  have hm := pl_mod hfi ha
  have hnz : ¬ (R : Int) = 0 := by omega
  have hnz' : ((R : Int) == 0) = false := by simpa using hnz
  have hR0 : (0 : Int) < R := by omega
  go_enter Try.func52, Try.ntmps52
  go_wp2
  go_quiet (fail)
  go_wp2
  go_ret
  exact ⟨ret_int hm, _, rfl⟩

set_option maxRecDepth 100000 in
set_option maxHeartbeats 400000 in
theorem newRing_any (R : Nat) (w : World) (h0 : 1 ≤ R) (hR : R ≤ 1000) :
    Calls Try.prog 50 #[.int .i64 R] w fun e w' => e = .returned (.pointer (some ⟨w.heap.size + 1, 0, none⟩)) ∧ Rg w.heap.size w' (w.heap.size + 1) w.heap.size R 0 [] ∧ Below w.heap.size w w' := by
  obtain ⟨ii, hi, hz0, hz1, hz2⟩ := info_parts infoF
  have hmk := run_make (P := Try.prog) w 27 37 ii (.agg #[.string ⟨#[]⟩, .string ⟨#[]⟩, .bool false]) Try.underlying27 hi hz0 .i64 .i64 (R : Int) (R : Int) (by omega) (by omega) (by rw [hz2]; omega) (by omega)
  obtain ⟨M, hM⟩ : ∃ M, madeCells (Value.agg #[.string ⟨#[]⟩, .string ⟨#[]⟩, .bool false]).cells (((R : Nat) : Int).toNat * ii.size) = M := ⟨_, rfl⟩
  have hMs : M.size = R * 3 := by rw [← hM, size_madeCells, hz1]; simp
  rw [hM, Int.toNat_natCast] at hmk
  have hA := heap_alloc_last w (.cells M 37)
  have hB := heap_alloc_last (w.alloc (.cells M 37)) (.cells #[.slice (some ⟨w.heap.size, 0, none⟩) R R, .int .i64 0, .int .i64 0] 68)
  rw [World.size_alloc] at hB
  have HA : Hid _ := hA
  have HB : Hid _ := hB
  have HM : Hid (M.size = R * 3) := hMs
  clear hA hB hM hMs
  go_enter Try.func50, Try.ntmps50
  go_wp2
  go_ret
  exact ⟨rfl, ⟨HB.out, ⟨M, blkT HA.out _, HM.out, fun j h => absurd h (by simp)⟩, by omega, Nat.le_refl _, by omega, by omega, by simp, hR⟩, ((Below.refl _ _).alloc (Nat.le_refl _) _).alloc (by simp) _⟩

theorem setC_heap {W : World} {B : Nat} {cs : Array Value} {t : TypeId} (o : Nat) (v : Value) (h : W.heap[B]? = some (.cells cs t (0, 0))) : (W.setCell ⟨B, o, none⟩ v).heap[B]? = some (.cells (cs.setIfInBounds o v) t (0, 0)) := by
  obtain ⟨hlt, hk⟩ := Array.getElem?_eq_some_iff.1 h
  show (W.heap.modify B _)[B]? = _
  rw [Array.getElem?_eq_getElem (by rw [Array.size_modify]; exact hlt), Array.getElem_modify_self, hk]
  rfl
theorem setC_other {W : World} {B g : Nat} {o : Option Obj} (k : Nat) (v : Value) (hne : g ≠ B) (h : W.heap[g]? = o) : (W.setCell ⟨B, k, none⟩ v).heap[g]? = o :=
  (Below.heap_setCell W ⟨B, k, none⟩ v g hne).trans h
/-- Three cells of a row are set. -/
def set3C (C : Array Value) (p : Nat) (f : Fd) : Array Value := ((C.setIfInBounds (p * 3) (.string f.n)).setIfInBounds (p * 3 + 1) (.string f.v)).setIfInBounds (p * 3 + 2) (.bool f.q)
theorem set3C_size (C : Array Value) (p : Nat) (f : Fd) : (set3C C p f).size = C.size := by simp [set3C]
theorem set3C_at (C : Array Value) (p R : Nat) (f : Fd) (hp : p < R) (hC : C.size = R * 3) : atC (set3C C p f) p f := by
  unfold atC set3C
  refine ⟨?_, ?_, ?_⟩ <;> (simp only [Array.getElem?_setIfInBounds, Array.size_setIfInBounds, hC])
  · rw [if_neg (by omega), if_neg (by omega), if_pos trivial, if_pos (by omega)]
  · rw [if_neg (by omega), if_pos trivial, if_pos (by omega)]
  · rw [if_pos trivial, if_pos (by omega)]
theorem set3C_other (C : Array Value) (p q : Nat) (f x : Fd) (hp : p ≠ q) (h : atC C q x) : atC (set3C C p f) q x := by
  unfold atC set3C at *
  obtain ⟨h0, h1, h2⟩ := h
  refine ⟨?_, ?_, ?_⟩ <;> (simp only [Array.getElem?_setIfInBounds])
  · rw [if_neg (by omega), if_neg (by omega), if_neg (by omega)]; exact h0
  · rw [if_neg (by omega), if_neg (by omega), if_neg (by omega)]; exact h1
  · rw [if_neg (by omega), if_neg (by omega), if_neg (by omega)]; exact h2

theorem place_b (B g R fi a : Nat) (x : Value) (w : World) (h : w.heap[B]? = some (.cells #[.slice (some ⟨g, 0, none⟩) R R, .int .i64 fi, x] 68 (0, 0))) (hfi : fi < R) (ha : a ≤ R) (hR : R ≤ 1000) :
    Calls Try.prog 52 #[.pointer (some ⟨B, 0, none⟩), .int .i64 a] w fun e w' => e = .returned (.int .i64 (pl fi a R : Nat)) ∧ Below w.heap.size w w' := by
  refine (place_any B g R fi a x w h hfi ha hR).mono ?_
  rintro e w' ⟨rfl, n, rfl⟩
  exact ⟨rfl, bdrewT (Below.refl _ _) n⟩
/-- Of a row of three: its cells, and that none is frozen. -/
theorem row3 {W : World} {B : Nat} {a b c : Value} {t : TypeId} (h : W.heap[B]? = some (.cells #[a, b, c] t (0, 0))) : W.cell? ⟨B, 0, none⟩ = some a ∧ W.cell? ⟨B, 1, none⟩ = some b ∧ W.cell? ⟨B, 2, none⟩ = some c ∧ W.frozen? ⟨B, 0, none⟩ = false ∧ W.frozen? ⟨B, 1, none⟩ = false ∧ W.frozen? ⟨B, 2, none⟩ = false :=
  ⟨cell_of_row _ _ 0 _ _ _ h, cell_of_row _ _ 1 _ _ _ h, cell_of_row _ _ 2 _ _ _ h, frz 0 h, frz 1 h, frz 2 h⟩
/-- Of a place of a row of fields: there are cells, and none is frozen. -/
theorem rowP {W : World} {g R p : Nat} {C : Array Value} {t : TypeId} (h : W.heap[g]? = some (.cells C t (0, 0))) (hC : C.size = R * 3) (hp : p < R) : ∃ x y z, W.cell? ⟨g, p * 3, none⟩ = some x ∧ W.cell? ⟨g, p * 3 + 1, none⟩ = some y ∧ W.cell? ⟨g, p * 3 + 2, none⟩ = some z ∧ W.frozen? ⟨g, p * 3, none⟩ = false ∧ W.frozen? ⟨g, p * 3 + 1, none⟩ = false ∧ W.frozen? ⟨g, p * 3 + 2, none⟩ = false := by
  refine ⟨C[p * 3]'(by omega), C[p * 3 + 1]'(by omega), C[p * 3 + 2]'(by omega), ?_, ?_, ?_, frz _ h, frz _ h, frz _ h⟩
  · rw [cell_of_row _ _ _ _ _ _ h, Array.getElem?_eq_getElem]
  · rw [cell_of_row _ _ _ _ _ _ h, Array.getElem?_eq_getElem]
  · rw [cell_of_row _ _ _ _ _ _ h, Array.getElem?_eq_getElem]
theorem keep5 {W : World} {B V g : Nat} {a b x y z : Value} (p : Nat) (u v q : Value) (hB : B ≠ g) (hV : V ≠ g) (h0 : W.cell? ⟨B, 0, none⟩ = some a) (h1 : W.cell? ⟨B, 1, none⟩ = some b) (h2 : W.cell? ⟨V, 0, none⟩ = some x) (h3 : W.cell? ⟨V, 1, none⟩ = some y) (h4 : W.cell? ⟨V, 2, none⟩ = some z) :
    (((W.setCell ⟨g, p, none⟩ u).setCell ⟨g, p + 1, none⟩ v).setCell ⟨g, p + 2, none⟩ q).cell? ⟨B, 0, none⟩ = some a ∧ (((W.setCell ⟨g, p, none⟩ u).setCell ⟨g, p + 1, none⟩ v).setCell ⟨g, p + 2, none⟩ q).cell? ⟨B, 1, none⟩ = some b ∧ (((W.setCell ⟨g, p, none⟩ u).setCell ⟨g, p + 1, none⟩ v).setCell ⟨g, p + 2, none⟩ q).cell? ⟨V, 0, none⟩ = some x ∧ (((W.setCell ⟨g, p, none⟩ u).setCell ⟨g, p + 1, none⟩ v).setCell ⟨g, p + 2, none⟩ q).cell? ⟨V, 1, none⟩ = some y ∧ (((W.setCell ⟨g, p, none⟩ u).setCell ⟨g, p + 1, none⟩ v).setCell ⟨g, p + 2, none⟩ q).cell? ⟨V, 2, none⟩ = some z := by
  refine ⟨?_, ?_, ?_, ?_, ?_⟩
  · rw [cell_set _ _ _ _ hB, cell_set _ _ _ _ hB, cell_set _ _ _ _ hB]; exact h0
  · rw [cell_set _ _ _ _ hB, cell_set _ _ _ _ hB, cell_set _ _ _ _ hB]; exact h1
  · rw [cell_set _ _ _ _ hV, cell_set _ _ _ _ hV, cell_set _ _ _ _ hV]; exact h2
  · rw [cell_set _ _ _ _ hV, cell_set _ _ _ _ hV, cell_set _ _ _ _ hV]; exact h3
  · rw [cell_set _ _ _ _ hV, cell_set _ _ _ _ hV, cell_set _ _ _ _ hV]; exact h4
theorem set3C_heap {W : World} {g p : Nat} {C : Array Value} {t : TypeId} (f : Fd) (h : W.heap[g]? = some (.cells C t (0, 0))) : (((W.setCell ⟨g, p * 3, none⟩ (.string f.n)).setCell ⟨g, p * 3 + 1, none⟩ (.string f.v)).setCell ⟨g, p * 3 + 2, none⟩ (.bool f.q)).heap[g]? = some (.cells (set3C C p f) t (0, 0)) :=
  setC_heap _ _ (setC_heap _ _ (setC_heap _ _ h))

set_option maxRecDepth 100000 in
set_option maxHeartbeats 1000000 in
theorem addFirst_any (base B g R fi : Nat) (L : List Fd) (f : Fd) (w : World) (h : Rg base w B g R fi L) (hl : L.length < R) (hbw : base ≤ w.heap.size) :
    Calls Try.prog 37 #[.pointer (some ⟨B, 0, none⟩), f.val] w fun e w' => e = .returned (.tuple #[]) ∧ Rg base w' B g R (pl fi (R - 1) R) (f :: L) ∧ Below base w w' := by
  obtain ⟨C, hC, hCs, hCa⟩ := h.places
  have hH := h.head
  have hBl := (Array.getElem?_eq_some_iff.1 hH).1
  have hgl := (Array.getElem?_eq_some_iff.1 hC).1
  have c0 := cell_of_row _ _ 0 _ _ _ hH
  simp at c0
  have hfi := h.fiR
  have hR := h.rm
  have hr1 : ((R : Int) - 1) = ((R - 1 : Nat) : Int) := by omega
  have hpl := fun (w' : World) (hh : w'.heap[B]? = some (.cells #[.slice (some ⟨g, 0, none⟩) R R, .int .i64 fi, .int .i64 L.length] 68 (0, 0))) => place_b B g R fi (R - 1) _ w' hh hfi (by omega) hR
  rw [← hr1] at hpl
  have hp := pl_lt (a := R - 1) hfi (by omega)
  obtain ⟨p, hpe⟩ : ∃ p, pl fi (R - 1) R = p := ⟨_, rfl⟩
  rw [hpe] at hpl hp ⊢
  have HPE : Hid (pl fi (R - 1) R = p) := hpe
  unfold Fd.val
  have HX : Hid (Rg base w B g R fi L) := h
  have HH : Hid _ := hH
  have HC : Hid _ := hC
  have HCA : Hid (∀ j (h : j < L.length), atC C (pl fi j R) L[j]) := hCa
  clear h hH hC hr1 hCa hpe
  have hA := heap_alloc_last w (.cells #[.string f.n, .string f.v, .bool f.q] 37)
  have HA : Hid _ := hA
  clear hA
  have hneg : g ≠ w.heap.size := by omega
  have hneB : B ≠ w.heap.size := by omega
  have hneBg : B ≠ g := HX.out.ne
  have hpi : (p : Int) < R := by omega
  go_enter Try.func37, Try.ntmps37
  go_wp2_with (go_at_call 52; refine (hpl _ (blkT HH.out _)).mono ?_; clear hpl; rintro e w1 ⟨rfl, hb1⟩; have hH1 := (hb1.block _ (Array.getElem?_eq_some_iff.1 (blkT HH.out _)).1).trans (blkT HH.out _); obtain ⟨x0, x1, x2, y0, y1, y2⟩ := row3 hH1)
  have hC1 := (hb1.block _ (Array.getElem?_eq_some_iff.1 (blkT HC.out _)).1).trans (blkT HC.out _)
  have hA1 := (hb1.block _ (Array.getElem?_eq_some_iff.1 HA.out).1).trans HA.out
  have hH2 := setC_heap 1 (.int .i64 p) hH1
  have hC2 := setC_other (B := B) 1 (.int .i64 p) hneBg.symm hC1
  have hA2 := setC_other (B := B) 1 (.int .i64 p) hneB.symm hA1
  have hB1 : Below base w w1 := ((Below.refl _ _).alloc hbw _).trans (hb1.mono (by simp; omega))
  have hB2 : Below base w (w1.setCell ⟨B, 1, none⟩ (.int .i64 p)) := hB1.setCell (p := ⟨B, 1, none⟩) HX.out.hB _
  obtain ⟨W2, hW2⟩ : ∃ W2, w1.setCell ⟨B, 1, none⟩ (.int .i64 p) = W2 := ⟨_, rfl⟩
  rw [hW2] at hH2 hC2 hA2 hB2 ⊢
  clear hW2 hb1 hH1 hC1 hA1 x0 x1 x2 y0 y1 y2 hB1
  have hHd : W2.drew.heap[B]? = some (.cells #[.slice (some ⟨g, 0, none⟩) R R, .int .i64 p, .int .i64 L.length] 68 (0, 0)) := hH2
  have hCd : W2.drew.heap[g]? = some (.cells C 37 (0, 0)) := hC2
  have hAd : W2.drew.heap[w.heap.size]? = some (.cells #[.string f.n, .string f.v, .bool f.q] 37 (0, 0)) := hA2
  obtain ⟨x0, x1, x2, y0, y1, y2⟩ := row3 hHd
  obtain ⟨a0, a1, a2, _, _, _⟩ := row3 hAd
  obtain ⟨_, _, _, p0, p1, p2, q0, q1, q2⟩ := rowP hC2 hCs hp
  clear hH2 hC2 hA2
  have hmx : Try.prog.follows .mixedOrders = true := by kernel_rfl
  go_region_held3 (fun w' => w'.cell? ⟨B, 0, none⟩ = some (.slice (some ⟨g, 0, none⟩) R R) ∧ w'.cell? ⟨B, 1, none⟩ = some (.int .i64 p) ∧ w'.cell? ⟨w.heap.size, 0, none⟩ = some (.string f.n) ∧ w'.cell? ⟨w.heap.size, 1, none⟩ = some (.string f.v) ∧ w'.cell? ⟨w.heap.size, 2, none⟩ = some (.bool f.q)) (first | exact ⟨x0, x1, a0, a1, a2⟩ | exact keep5 _ _ _ _ hneBg hneg.symm x0 x1 a0 a1 a2) (fail)
  have hH3 := setC_other (B := g) (p * 3 + 2) (.bool f.q) hneBg (setC_other (B := g) (p * 3 + 1) (.string f.v) hneBg (setC_other (B := g) (p * 3) (.string f.n) hneBg hHd))
  have hC3 := set3C_heap (p := p) f hCd
  have hB3 := ((hB2.drew.setCell (p := ⟨g, p * 3, none⟩) HX.out.hg (.string f.n)).setCell (p := ⟨g, p * 3 + 1, none⟩) HX.out.hg (.string f.v)).setCell (p := ⟨g, p * 3 + 2, none⟩) HX.out.hg (.bool f.q)
  obtain ⟨W3, hW3⟩ : ∃ W3, (((W2.drew.setCell ⟨g, p * 3, none⟩ (.string f.n)).setCell ⟨g, p * 3 + 1, none⟩ (.string f.v)).setCell ⟨g, p * 3 + 2, none⟩ (.bool f.q)) = W3 := ⟨_, rfl⟩
  rw [hW3] at hH3 hC3 hB3
  have hW3' : (((W2.setCell ⟨g, p * 3, none⟩ (.string f.n)).setCell ⟨g, p * 3 + 1, none⟩ (.string f.v)).setCell ⟨g, p * 3 + 2, none⟩ (.bool f.q)).drew = W3 := hW3
  rw [hW3']
  clear hW3 hW3' x0 x1 x2 y0 y1 y2 a0 a1 a2 p0 p1 p2 q0 q1 q2 hHd hCd hAd
  obtain ⟨x0, x1, x2, y0, y1, y2⟩ := row3 hH3
  have hl1 : (L.length : Int) < 1000 := by omega
  go_wp2
  have hH4 := setC_heap 2 (.int .i64 ((L.length : Int) + 1)) hH3
  have hC4 := setC_other (B := B) 2 (.int .i64 ((L.length : Int) + 1)) hneBg.symm hC3
  go_end0
  refine ⟨rfl, ?_, hB3.setCell (p := ⟨B, 2, none⟩) HX.out.hB _⟩
  refine ⟨hH4, ⟨_, hC4, by rw [set3C_size]; exact hCs, ?_⟩, HX.out.hB, HX.out.hg, hneBg, hp, by simp; omega, hR⟩
  intro j hj
  cases j with
  | zero =>
    rw [pl_zero hp]
    exact set3C_at _ _ _ _ hp hCs
  | succ j =>
    have hj' : j < L.length := by simpa using hj
    rw [← HPE.out, pl_back hfi (by omega), List.getElem_cons_succ]
    refine set3C_other _ _ _ _ _ (fun e => ?_) (HCA.out j hj')
    have := pl_inj (a := R - 1) (b := j) hfi (by omega) (by omega) e
    omega

end Go.Proofs.Ytafhpcgdlmkbeay
