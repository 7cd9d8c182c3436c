import Derived.Test.YtghgcobnmmommaaBJ
namespace Go.Proofs.Ytghgcobnmmommaa
open Go.RowKit
set_option linter.unusedVariables false

/-- A place in a ring of R places: so many behind the first. -/
def pl (fi a R : Nat) : Nat := if fi + a < R then fi + a else fi + a - R
theorem pl_lt {fi a R : Nat} (h : fi < R) (ha : a ≤ R) : pl fi a R < R := by unfold pl; split <;> omega
theorem pl_mod {fi a R : Nat} (h : fi < R) (ha : a ≤ R) : ((fi : Int) + (a : Int)) % (R : Int) = (pl fi a R : Nat) := by
  unfold pl
  split
  · rw [Int.emod_eq_of_lt (by omega) (by omega)]; omega
  · have : ((fi : Int) + a) = ((fi + a - R : Nat) : Int) + R := by omega
    rw [this, Int.add_emod_right, Int.emod_eq_of_lt (by omega) (by omega)]
theorem pl_inj {fi a b R : Nat} (h : fi < R) (ha : a < R) (hb : b < R) (e : pl fi a R = pl fi b R) : a = b := by
  unfold pl at e
  split at e <;> split at e <;> omega
theorem pl_back {fi a R : Nat} (h : fi < R) (ha : a + 1 ≤ R) : pl (pl fi (R - 1) R) (a + 1) R = pl fi a R := by
  unfold pl
  repeat' split
  all_goals omega
theorem pl_zero {fi R : Nat} (h : fi < R) : pl fi 0 R = fi := by unfold pl; rw [if_pos (by omega)]; omega
/-- The cells of a field that lie at a place. -/
def atC (C : Array Value) (p : Nat) (f : Fd) : Prop := C[p * 3]? = some (.string f.n) ∧ C[p * 3 + 1]? = some (.string f.v) ∧ C[p * 3 + 2]? = some (.bool f.q)
/-- A ring of fields in memory, above base: its head lies at block B, its places at block g. -/
structure Rg (base : Nat) (w : World) (B g R fi : Nat) (L : List Fd) : Prop where
  head : w.heap[B]? = some (.cells #[.slice (some ⟨g, 0, none⟩) R R, .int .i64 fi, .int .i64 L.length] 183 (0, 0))
  places : ∃ C, w.heap[g]? = some (.cells C 107 (0, 0)) ∧ C.size = R * 3 ∧ ∀ j (h : j < L.length), atC C (pl fi j R) L[j]
  hB : base ≤ B
  hg : base ≤ g
  ne : B ≠ g
  fiR : fi < R
  le : L.length ≤ R
  rm : R ≤ 1000
theorem Rg.below {base : Nat} {w w' : World} {B g R fi : Nat} {L : List Fd} (h : Rg base w B g R fi L) (hb : Below w.heap.size w w') : Rg base w' B g R fi L := by
  obtain ⟨C, hC, h2⟩ := h.places
  exact ⟨(hb.block _ (Array.getElem?_eq_some_iff.1 h.head).1).trans h.head, ⟨C, (hb.block _ (Array.getElem?_eq_some_iff.1 hC).1).trans hC, h2⟩, h.hB, h.hg, h.ne, h.fiR, h.le, h.rm⟩
theorem Rg.drewN {base : Nat} {w : World} {B g R fi : Nat} {L : List Fd} (h : Rg base w B g R fi L) (n : Nat) : Rg base (w.drewN n) B g R fi L :=
  ⟨h.head, h.places, h.hB, h.hg, h.ne, h.fiR, h.le, h.rm⟩

set_option maxRecDepth 100000 in
set_option maxHeartbeats 400000 in
theorem place_any (B g R fi a : Nat) (x : Value) (w : World) (h : w.heap[B]? = some (.cells #[.slice (some ⟨g, 0, none⟩) R R, .int .i64 fi, x] 183 (0, 0))) (hfi : fi < R) (ha : a ≤ R) (hR : R ≤ 1000) :
    Calls Try.prog 132 #[.pointer (some ⟨B, 0, none⟩), .int .i64 a] w fun e w' => e = .returned (.int .i64 (pl fi a R : Nat)) ∧ ∃ n, w' = w.drewN n := by
  have c0 := cell_of_row _ _ 0 _ _ _ h
  have c1 := cell_of_row _ _ 1 _ _ _ h
  simp at c0 c1
  have hm := pl_mod hfi ha
  have hnz : ¬ (R : Int) = 0 := by omega
  have hnz' : ((R : Int) == 0) = false := by simpa using hnz
  have hR0 : (0 : Int) < R := by omega
  go_enter Try.func132, Try.ntmps132
  go_wp2
  go_quiet (fail)
  go_wp2
  go_ret
  exact ⟨ret_int hm, _, rfl⟩

set_option maxRecDepth 100000 in
set_option maxHeartbeats 400000 in
theorem newRing_any (R : Nat) (w : World) (h0 : 1 ≤ R) (hR : R ≤ 1000) :
    Calls Try.prog 118 #[.int .i64 R] w fun e w' => e = .returned (.pointer (some ⟨w.heap.size + 1, 0, none⟩)) ∧ Rg w.heap.size w' (w.heap.size + 1) w.heap.size R 0 [] ∧ Below w.heap.size w w' := by
  obtain ⟨ii, hi, hz0, hz1, hz2⟩ := info_parts infoF
  have hmk := run_make (P := Try.prog) w 24 107 ii (.agg #[.string ⟨#[]⟩, .string ⟨#[]⟩, .bool false]) Try.underlying24 hi hz0 .i64 .i64 (R : Int) (R : Int) (by omega) (by omega) (by rw [hz2]; omega) (by omega)
  obtain ⟨M, hM⟩ : ∃ M, madeCells (Value.agg #[.string ⟨#[]⟩, .string ⟨#[]⟩, .bool false]).cells (((R : Nat) : Int).toNat * ii.size) = M := ⟨_, rfl⟩
  have hMs : M.size = R * 3 := by rw [← hM, size_madeCells, hz1]; simp
  rw [hM, Int.toNat_natCast] at hmk
  have hA := heap_alloc_last w (.cells M 107)
  have hB := heap_alloc_last (w.alloc (.cells M 107)) (.cells #[.slice (some ⟨w.heap.size, 0, none⟩) R R, .int .i64 0, .int .i64 0] 183)
  rw [World.size_alloc] at hB
  have HA : Hid _ := hA
  have HB : Hid _ := hB
  have HM : Hid (M.size = R * 3) := hMs
  clear hA hB hM hMs
  go_enter Try.func118, Try.ntmps118
  go_wp2
  go_ret
  exact ⟨rfl, ⟨HB.out, ⟨M, blkT HA.out _, HM.out, fun j h => absurd h (by simp)⟩, by omega, Nat.le_refl _, by omega, by omega, by simp, hR⟩, ((Below.refl _ _).alloc (Nat.le_refl _) _).alloc (by simp) _⟩

theorem setC_heap {W : World} {B : Nat} {cs : Array Value} {t : TypeId} (o : Nat) (v : Value) (h : W.heap[B]? = some (.cells cs t (0, 0))) : (W.setCell ⟨B, o, none⟩ v).heap[B]? = some (.cells (cs.setIfInBounds o v) t (0, 0)) := by
  obtain ⟨hlt, hk⟩ := Array.getElem?_eq_some_iff.1 h
  show (W.heap.modify B _)[B]? = _
  rw [Array.getElem?_eq_getElem (by rw [Array.size_modify]; exact hlt), Array.getElem_modify_self, hk]
  rfl
theorem setC_other {W : World} {B g : Nat} {o : Option Obj} (k : Nat) (v : Value) (hne : g ≠ B) (h : W.heap[g]? = o) : (W.setCell ⟨B, k, none⟩ v).heap[g]? = o :=
  (Below.heap_setCell W ⟨B, k, none⟩ v g hne).trans h
/-- Three cells of a row are set. -/
def set3C (C : Array Value) (p : Nat) (f : Fd) : Array Value := ((C.setIfInBounds (p * 3) (.string f.n)).setIfInBounds (p * 3 + 1) (.string f.v)).setIfInBounds (p * 3 + 2) (.bool f.q)
theorem set3C_size (C : Array Value) (p : Nat) (f : Fd) : (set3C C p f).size = C.size := by simp [set3C]
theorem set3C_at (C : Array Value) (p R : Nat) (f : Fd) (hp : p < R) (hC : C.size = R * 3) : atC (set3C C p f) p f := by
  unfold atC set3C
  refine ⟨?_, ?_, ?_⟩ <;> (simp only [Array.getElem?_setIfInBounds, Array.size_setIfInBounds, hC])
  · rw [if_neg (by omega), if_neg (by omega), if_pos trivial, if_pos (by omega)]
  · rw [if_neg (by omega), if_pos trivial, if_pos (by omega)]
  · rw [if_pos trivial, if_pos (by omega)]
theorem set3C_other (C : Array Value) (p q : Nat) (f x : Fd) (hp : p ≠ q) (h : atC C q x) : atC (set3C C p f) q x := by
  unfold atC set3C at *
  obtain ⟨h0, h1, h2⟩ := h
  refine ⟨?_, ?_, ?_⟩ <;> (simp only [Array.getElem?_setIfInBounds])
  · rw [if_neg (by omega), if_neg (by omega), if_neg (by omega)]; exact h0
  · rw [if_neg (by omega), if_neg (by omega), if_neg (by omega)]; exact h1
  · rw [if_neg (by omega), if_neg (by omega), if_neg (by omega)]; exact h2

theorem place_b (B g R fi a : Nat) (x : Value) (w : World) (h : w.heap[B]? = some (.cells #[.slice (some ⟨g, 0, none⟩) R R, .int .i64 fi, x] 183 (0, 0))) (hfi : fi < R) (ha : a ≤ R) (hR : R ≤ 1000) :
    Calls Try.prog 132 #[.pointer (some ⟨B, 0, none⟩), .int .i64 a] w fun e w' => e = .returned (.int .i64 (pl fi a R : Nat)) ∧ Below w.heap.size w w' := by
  refine (place_any B g R fi a x w h hfi ha hR).mono ?_
  rintro e w' ⟨rfl, n, rfl⟩
  exact ⟨rfl, bdrewT (Below.refl _ _) n⟩
/-- Of a row of three: its cells, and that none is frozen. -/
theorem row3 {W : World} {B : Nat} {a b c : Value} {t : TypeId} (h : W.heap[B]? = some (.cells #[a, b, c] t (0, 0))) : W.cell? ⟨B, 0, none⟩ = some a ∧ W.cell? ⟨B, 1, none⟩ = some b ∧ W.cell? ⟨B, 2, none⟩ = some c ∧ W.frozen? ⟨B, 0, none⟩ = false ∧ W.frozen? ⟨B, 1, none⟩ = false ∧ W.frozen? ⟨B, 2, none⟩ = false :=
  ⟨cell_of_row _ _ 0 _ _ _ h, cell_of_row _ _ 1 _ _ _ h, cell_of_row _ _ 2 _ _ _ h, frz 0 h, frz 1 h, frz 2 h⟩
/-- Of a place of a row of fields: there are cells, and none is frozen. -/
theorem rowP {W : World} {g R p : Nat} {C : Array Value} {t : TypeId} (h : W.heap[g]? = some (.cells C t (0, 0))) (hC : C.size = R * 3) (hp : p < R) : ∃ x y z, W.cell? ⟨g, p * 3, none⟩ = some x ∧ W.cell? ⟨g, p * 3 + 1, none⟩ = some y ∧ W.cell? ⟨g, p * 3 + 2, none⟩ = some z ∧ W.frozen? ⟨g, p * 3, none⟩ = false ∧ W.frozen? ⟨g, p * 3 + 1, none⟩ = false ∧ W.frozen? ⟨g, p * 3 + 2, none⟩ = false := by
  refine ⟨C[p * 3]'(by omega), C[p * 3 + 1]'(by omega), C[p * 3 + 2]'(by omega), ?_, ?_, ?_, frz _ h, frz _ h, frz _ h⟩
  · rw [cell_of_row _ _ _ _ _ _ h, Array.getElem?_eq_getElem]
  · rw [cell_of_row _ _ _ _ _ _ h, Array.getElem?_eq_getElem]
  · rw [cell_of_row _ _ _ _ _ _ h, Array.getElem?_eq_getElem]
theorem keep5 {W : World} {B V g : Nat} {a b x y z : Value} (p : Nat) (u v q : Value) (hB : B ≠ g) (hV : V ≠ g) (h0 : W.cell? ⟨B, 0, none⟩ = some a) (h1 : W.cell? ⟨B, 1, none⟩ = some b) (h2 : W.cell? ⟨V, 0, none⟩ = some x) (h3 : W.cell? ⟨V, 1, none⟩ = some y) (h4 : W.cell? ⟨V, 2, none⟩ = some z) :
    (((W.setCell ⟨g, p, none⟩ u).setCell ⟨g, p + 1, none⟩ v).setCell ⟨g, p + 2, none⟩ q).cell? ⟨B, 0, none⟩ = some a ∧ (((W.setCell ⟨g, p, none⟩ u).setCell ⟨g, p + 1, none⟩ v).setCell ⟨g, p + 2, none⟩ q).cell? ⟨B, 1, none⟩ = some b ∧ (((W.setCell ⟨g, p, none⟩ u).setCell ⟨g, p + 1, none⟩ v).setCell ⟨g, p + 2, none⟩ q).cell? ⟨V, 0, none⟩ = some x ∧ (((W.setCell ⟨g, p, none⟩ u).setCell ⟨g, p + 1, none⟩ v).setCell ⟨g, p + 2, none⟩ q).cell? ⟨V, 1, none⟩ = some y ∧ (((W.setCell ⟨g, p, none⟩ u).setCell ⟨g, p + 1, none⟩ v).setCell ⟨g, p + 2, none⟩ q).cell? ⟨V, 2, none⟩ = some z := by
  refine ⟨?_, ?_, ?_, ?_, ?_⟩
  · rw [cell_set _ _ _ _ hB, cell_set _ _ _ _ hB, cell_set _ _ _ _ hB]; exact h0
  · rw [cell_set _ _ _ _ hB, cell_set _ _ _ _ hB, cell_set _ _ _ _ hB]; exact h1
  · rw [cell_set _ _ _ _ hV, cell_set _ _ _ _ hV, cell_set _ _ _ _ hV]; exact h2
  · rw [cell_set _ _ _ _ hV, cell_set _ _ _ _ hV, cell_set _ _ _ _ hV]; exact h3
  · rw [cell_set _ _ _ _ hV, cell_set _ _ _ _ hV, cell_set _ _ _ _ hV]; exact h4
theorem set3C_heap {W : World} {g p : Nat} {C : Array Value} {t : TypeId} (f : Fd) (h : W.heap[g]? = some (.cells C t (0, 0))) : (((W.setCell ⟨g, p * 3, none⟩ (.string f.n)).setCell ⟨g, p * 3 + 1, none⟩ (.string f.v)).setCell ⟨g, p * 3 + 2, none⟩ (.bool f.q)).heap[g]? = some (.cells (set3C C p f) t (0, 0)) :=
  setC_heap _ _ (setC_heap _ _ (setC_heap _ _ h))

set_option maxRecDepth 100000 in
set_option maxHeartbeats 1000000 in
theorem addFirst_any (base B g R fi : Nat) (L : List Fd) (f : Fd) (w : World) (h : Rg base w B g R fi L) (hl : L.length < R) (hbw : base ≤ w.heap.size) :
    Calls Try.prog 134 #[.pointer (some ⟨B, 0, none⟩), f.val] w fun e w' => e = .returned (.tuple #[]) ∧ Rg base w' B g R (pl fi (R - 1) R) (f :: L) ∧ Below base w w' := by
  obtain ⟨C, hC, hCs, hCa⟩ := h.places
  have hH := h.head
  have hBl := (Array.getElem?_eq_some_iff.1 hH).1
  have hgl := (Array.getElem?_eq_some_iff.1 hC).1
  have c0 := cell_of_row _ _ 0 _ _ _ hH
  simp at c0
  have hfi := h.fiR
  have hR := h.rm
  have hr1 : ((R : Int) - 1) = ((R - 1 : Nat) : Int) := by omega
  have hpl := fun (w' : World) (hh : w'.heap[B]? = some (.cells #[.slice (some ⟨g, 0, none⟩) R R, .int .i64 fi, .int .i64 L.length] 183 (0, 0))) => place_b B g R fi (R - 1) _ w' hh hfi (by omega) hR
  rw [← hr1] at hpl
  have hp := pl_lt (a := R - 1) hfi (by omega)
  obtain ⟨p, hpe⟩ : ∃ p, pl fi (R - 1) R = p := ⟨_, rfl⟩
  rw [hpe] at hpl hp ⊢
  have HPE : Hid (pl fi (R - 1) R = p) := hpe
  unfold Fd.val
  have HX : Hid (Rg base w B g R fi L) := h
  have HH : Hid _ := hH
  have HC : Hid _ := hC
  have HCA : Hid (∀ j (h : j < L.length), atC C (pl fi j R) L[j]) := hCa
  clear h hH hC hr1 hCa hpe
  have hA := heap_alloc_last w (.cells #[.string f.n, .string f.v, .bool f.q] 107)
  have HA : Hid _ := hA
  clear hA
  have hneg : g ≠ w.heap.size := by omega
  have hneB : B ≠ w.heap.size := by omega
  have hneBg : B ≠ g := HX.out.ne
  have hpi : (p : Int) < R := by omega
  go_enter Try.func134, Try.ntmps134
  go_wp2_with (go_at_call 132; refine (hpl _ (blkT HH.out _)).mono ?_; clear hpl; rintro e w1 ⟨rfl, hb1⟩; have hH1 := (hb1.block _ (Array.getElem?_eq_some_iff.1 (blkT HH.out _)).1).trans (blkT HH.out _); obtain ⟨x0, x1, x2, y0, y1, y2⟩ := row3 hH1)
  have hC1 := (hb1.block _ (Array.getElem?_eq_some_iff.1 (blkT HC.out _)).1).trans (blkT HC.out _)
  have hA1 := (hb1.block _ (Array.getElem?_eq_some_iff.1 HA.out).1).trans HA.out
  have hH2 := setC_heap 1 (.int .i64 p) hH1
  have hC2 := setC_other (B := B) 1 (.int .i64 p) hneBg.symm hC1
  have hA2 := setC_other (B := B) 1 (.int .i64 p) hneB.symm hA1
  have hB1 : Below base w w1 := ((Below.refl _ _).alloc hbw _).trans (hb1.mono (by simp; omega))
  have hB2 : Below base w (w1.setCell ⟨B, 1, none⟩ (.int .i64 p)) := hB1.setCell (p := ⟨B, 1, none⟩) HX.out.hB _
  obtain ⟨W2, hW2⟩ : ∃ W2, w1.setCell ⟨B, 1, none⟩ (.int .i64 p) = W2 := ⟨_, rfl⟩
  rw [hW2] at hH2 hC2 hA2 hB2 ⊢
  clear hW2 hb1 hH1 hC1 hA1 x0 x1 x2 y0 y1 y2 hB1
  have hHd : W2.drew.heap[B]? = some (.cells #[.slice (some ⟨g, 0, none⟩) R R, .int .i64 p, .int .i64 L.length] 183 (0, 0)) := hH2
  have hCd : W2.drew.heap[g]? = some (.cells C 107 (0, 0)) := hC2
  have hAd : W2.drew.heap[w.heap.size]? = some (.cells #[.string f.n, .string f.v, .bool f.q] 107 (0, 0)) := hA2
  obtain ⟨x0, x1, x2, y0, y1, y2⟩ := row3 hHd
  obtain ⟨a0, a1, a2, _, _, _⟩ := row3 hAd
  obtain ⟨_, _, _, p0, p1, p2, q0, q1, q2⟩ := rowP hC2 hCs hp
  clear hH2 hC2 hA2
  have hmx : Try.prog.follows .mixedOrders = true := by kernel_rfl
  go_region_held3 (fun w' => w'.cell? ⟨B, 0, none⟩ = some (.slice (some ⟨g, 0, none⟩) R R) ∧ w'.cell? ⟨B, 1, none⟩ = some (.int .i64 p) ∧ w'.cell? ⟨w.heap.size, 0, none⟩ = some (.string f.n) ∧ w'.cell? ⟨w.heap.size, 1, none⟩ = some (.string f.v) ∧ w'.cell? ⟨w.heap.size, 2, none⟩ = some (.bool f.q)) (first | exact ⟨x0, x1, a0, a1, a2⟩ | exact keep5 _ _ _ _ hneBg hneg.symm x0 x1 a0 a1 a2) (fail)
  have hH3 := setC_other (B := g) (p * 3 + 2) (.bool f.q) hneBg (setC_other (B := g) (p * 3 + 1) (.string f.v) hneBg (setC_other (B := g) (p * 3) (.string f.n) hneBg hHd))
  have hC3 := set3C_heap (p := p) f hCd
  have hB3 := ((hB2.drew.setCell (p := ⟨g, p * 3, none⟩) HX.out.hg (.string f.n)).setCell (p := ⟨g, p * 3 + 1, none⟩) HX.out.hg (.string f.v)).setCell (p := ⟨g, p * 3 + 2, none⟩) HX.out.hg (.bool f.q)
  obtain ⟨W3, hW3⟩ : ∃ W3, (((W2.drew.setCell ⟨g, p * 3, none⟩ (.string f.n)).setCell ⟨g, p * 3 + 1, none⟩ (.string f.v)).setCell ⟨g, p * 3 + 2, none⟩ (.bool f.q)) = W3 := ⟨_, rfl⟩
  rw [hW3] at hH3 hC3 hB3
  have hW3' : (((W2.setCell ⟨g, p * 3, none⟩ (.string f.n)).setCell ⟨g, p * 3 + 1, none⟩ (.string f.v)).setCell ⟨g, p * 3 + 2, none⟩ (.bool f.q)).drew = W3 := hW3
  rw [hW3']
  clear hW3 hW3' x0 x1 x2 y0 y1 y2 a0 a1 a2 p0 p1 p2 q0 q1 q2 hHd hCd hAd
  obtain ⟨x0, x1, x2, y0, y1, y2⟩ := row3 hH3
  have hl1 : (L.length : Int) < 1000 := by omega
  go_wp2
  have hH4 := setC_heap 2 (.int .i64 ((L.length : Int) + 1)) hH3
  have hC4 := setC_other (B := B) 2 (.int .i64 ((L.length : Int) + 1)) hneBg.symm hC3
  go_end0
  refine ⟨rfl, ?_, hB3.setCell (p := ⟨B, 2, none⟩) HX.out.hB _⟩
  refine ⟨hH4, ⟨_, hC4, by rw [set3C_size]; exact hCs, ?_⟩, HX.out.hB, HX.out.hg, hneBg, hp, by simp; omega, hR⟩
  intro j hj
  cases j with
  | zero =>
    rw [pl_zero hp]
    exact set3C_at _ _ _ _ hp hCs
  | succ j =>
    have hj' : j < L.length := by simpa using hj
    rw [← HPE.out, pl_back hfi (by omega), List.getElem_cons_succ]
    refine set3C_other _ _ _ _ _ (fun e => ?_) (HCA.out j hj')
    have := pl_inj (a := R - 1) (b := j) hfi (by omega) (by omega) e
    omega

end Go.Proofs.Ytghgcobnmmommaa

namespace Go.Proofs.Ytghgcobnmmommaa
open Go.RowKit
set_option linter.unusedVariables false

theorem keep5b {w1 w2 : World} {B V : Nat} {a b x y z : Value} (hb : Below w1.heap.size w1 w2) (h0 : w1.cell? ⟨B, 0, none⟩ = some a) (h1 : w1.cell? ⟨B, 2, none⟩ = some b) (h2 : w1.cell? ⟨V, 0, none⟩ = some x) (h3 : w1.cell? ⟨V, 1, none⟩ = some y) (h4 : w1.cell? ⟨V, 2, none⟩ = some z) :
    w2.cell? ⟨B, 0, none⟩ = some a ∧ w2.cell? ⟨B, 2, none⟩ = some b ∧ w2.cell? ⟨V, 0, none⟩ = some x ∧ w2.cell? ⟨V, 1, none⟩ = some y ∧ w2.cell? ⟨V, 2, none⟩ = some z :=
  ⟨(hb.cell (p := ⟨B, 0, none⟩) (World.block_lt_of_cell? w1 _ h0)).trans h0, (hb.cell (p := ⟨B, 2, none⟩) (World.block_lt_of_cell? w1 _ h1)).trans h1, (hb.cell (p := ⟨V, 0, none⟩) (World.block_lt_of_cell? w1 _ h2)).trans h2, (hb.cell (p := ⟨V, 1, none⟩) (World.block_lt_of_cell? w1 _ h3)).trans h3, (hb.cell (p := ⟨V, 2, none⟩) (World.block_lt_of_cell? w1 _ h4)).trans h4⟩
theorem keep5c {W : World} {B V g : Nat} {a b x y z : Value} (p : Nat) (u v q : Value) (hB : B ≠ g) (hV : V ≠ g) (h0 : W.cell? ⟨B, 0, none⟩ = some a) (h1 : W.cell? ⟨B, 2, none⟩ = some b) (h2 : W.cell? ⟨V, 0, none⟩ = some x) (h3 : W.cell? ⟨V, 1, none⟩ = some y) (h4 : W.cell? ⟨V, 2, none⟩ = some z) :
    (((W.setCell ⟨g, p, none⟩ u).setCell ⟨g, p + 1, none⟩ v).setCell ⟨g, p + 2, none⟩ q).cell? ⟨B, 0, none⟩ = some a ∧ (((W.setCell ⟨g, p, none⟩ u).setCell ⟨g, p + 1, none⟩ v).setCell ⟨g, p + 2, none⟩ q).cell? ⟨B, 2, none⟩ = some b ∧ (((W.setCell ⟨g, p, none⟩ u).setCell ⟨g, p + 1, none⟩ v).setCell ⟨g, p + 2, none⟩ q).cell? ⟨V, 0, none⟩ = some x ∧ (((W.setCell ⟨g, p, none⟩ u).setCell ⟨g, p + 1, none⟩ v).setCell ⟨g, p + 2, none⟩ q).cell? ⟨V, 1, none⟩ = some y ∧ (((W.setCell ⟨g, p, none⟩ u).setCell ⟨g, p + 1, none⟩ v).setCell ⟨g, p + 2, none⟩ q).cell? ⟨V, 2, none⟩ = some z := by
  refine ⟨?_, ?_, ?_, ?_, ?_⟩
  · rw [cell_set _ _ _ _ hB, cell_set _ _ _ _ hB, cell_set _ _ _ _ hB]; exact h0
  · rw [cell_set _ _ _ _ hB, cell_set _ _ _ _ hB, cell_set _ _ _ _ hB]; exact h1
  · rw [cell_set _ _ _ _ hV, cell_set _ _ _ _ hV, cell_set _ _ _ _ hV]; exact h2
  · rw [cell_set _ _ _ _ hV, cell_set _ _ _ _ hV, cell_set _ _ _ _ hV]; exact h3
  · rw [cell_set _ _ _ _ hV, cell_set _ _ _ _ hV, cell_set _ _ _ _ hV]; exact h4

set_option maxRecDepth 100000 in
set_option maxHeartbeats 1000000 in
theorem addLast_any (base B g R fi : Nat) (L : List Fd) (f : Fd) (w : World) (h : Rg base w B g R fi L) (hl : L.length < R) (hbw : base ≤ w.heap.size) :
    Calls Try.prog 119 #[.pointer (some ⟨B, 0, none⟩), f.val] w fun e w' => e = .returned (.tuple #[]) ∧ Rg base w' B g R fi (L ++ [f]) ∧ Below base w w' := by
  obtain ⟨C, hC, hCs, hCa⟩ := h.places
  have hH := h.head
  have hBl := (Array.getElem?_eq_some_iff.1 hH).1
  have hgl := (Array.getElem?_eq_some_iff.1 hC).1
  have hfi := h.fiR
  have hR := h.rm
  have hpl := fun (w' : World) (hh : w'.heap[B]? = some (.cells #[.slice (some ⟨g, 0, none⟩) R R, .int .i64 fi, .int .i64 L.length] 183 (0, 0))) => place_b B g R fi L.length _ w' hh hfi (by omega) hR
  have hp := pl_lt (a := L.length) hfi (by omega)
  obtain ⟨p, hpe⟩ : ∃ p, pl fi L.length R = p := ⟨_, rfl⟩
  rw [hpe] at hpl hp
  have HPE : Hid (pl fi L.length R = p) := hpe
  unfold Fd.val
  have HX : Hid (Rg base w B g R fi L) := h
  have HCA : Hid (∀ j (h : j < L.length), atC C (pl fi j R) L[j]) := hCa
  clear h hCa hpe
  have hneg : g ≠ w.heap.size := by omega
  have hneB : B ≠ w.heap.size := by omega
  have hneBg : B ≠ g := HX.out.ne
  have hpi : (p : Int) < R := by omega
  have hl1 : (L.length : Int) < 1000 := by omega
  have HH : Hid _ := blkT hH (.cells #[.string f.n, .string f.v, .bool f.q] 107)
  have HC : Hid _ := blkT hC (.cells #[.string f.n, .string f.v, .bool f.q] 107)
  have HA : Hid _ := heap_alloc_last w (.cells #[.string f.n, .string f.v, .bool f.q] 107)
  have HB : Hid (Below base w (w.alloc (.cells #[.string f.n, .string f.v, .bool f.q] 107))) := (Below.refl _ _).alloc hbw _
  clear hH hC
  go_enter Try.func119, Try.ntmps119
  go_wp2
  obtain ⟨W0, hW0⟩ : ∃ W0, (w.alloc (.cells #[.string f.n, .string f.v, .bool f.q] 107)) = W0 := ⟨_, rfl⟩
  rw [hW0] at HH HC HA HB ⊢
  clear hW0
  have hH : W0.drew.heap[B]? = some (.cells #[.slice (some ⟨g, 0, none⟩) R R, .int .i64 fi, .int .i64 L.length] 183 (0, 0)) := HH.out
  have hC : W0.drew.heap[g]? = some (.cells C 107 (0, 0)) := HC.out
  have hA : W0.drew.heap[w.heap.size]? = some (.cells #[.string f.n, .string f.v, .bool f.q] 107 (0, 0)) := HA.out
  have hB0 : Below base w W0.drew := HB.out.drew
  obtain ⟨x0, x1, x2, y0, y1, y2⟩ := row3 hH
  obtain ⟨a0, a1, a2, _, _, _⟩ := row3 hA
  have hmx : Try.prog.follows .mixedOrders = true := by kernel_rfl
  go_region_held3 (fun w' => w'.cell? ⟨B, 0, none⟩ = some (.slice (some ⟨g, 0, none⟩) R R) ∧ w'.cell? ⟨B, 2, none⟩ = some (.int .i64 L.length) ∧ w'.cell? ⟨w.heap.size, 0, none⟩ = some (.string f.n) ∧ w'.cell? ⟨w.heap.size, 1, none⟩ = some (.string f.v) ∧ w'.cell? ⟨w.heap.size, 2, none⟩ = some (.bool f.q)) (first | exact ⟨x0, x2, a0, a1, a2⟩ | exact keep5b hb1 x0 x2 a0 a1 a2 | exact keep5c _ _ _ _ hneBg hneg.symm u0 u2 b0 b1 b2) ((go_at_call 132; refine (hpl _ hH).mono ?_; clear hpl; rintro e w1 ⟨rfl, hb1⟩; have hH1 := (hb1.block _ (Array.getElem?_eq_some_iff.1 hH).1).trans hH; have hC1 := (hb1.block _ (Array.getElem?_eq_some_iff.1 hC).1).trans hC; have hA1 := (hb1.block _ (Array.getElem?_eq_some_iff.1 hA).1).trans hA; obtain ⟨u0, u1, u2, _, _, _⟩ := row3 hH1; obtain ⟨b0, b1, b2, _, _, _⟩ := row3 hA1; obtain ⟨_, _, _, p0, p1, p2, q0, q1, q2⟩ := rowP hC1 hCs hp))
  have hB1 : Below base w w1 := hB0.trans (hb1.mono (Nat.le_trans hbw hB0.size))
  have hH3 := setC_other (B := g) (p * 3 + 2) (.bool f.q) hneBg (setC_other (B := g) (p * 3 + 1) (.string f.v) hneBg (setC_other (B := g) (p * 3) (.string f.n) hneBg hH1))
  have hC3 := set3C_heap (p := p) f hC1
  have hB3 := ((hB1.setCell (p := ⟨g, p * 3, none⟩) HX.out.hg (.string f.n)).setCell (p := ⟨g, p * 3 + 1, none⟩) HX.out.hg (.string f.v)).setCell (p := ⟨g, p * 3 + 2, none⟩) HX.out.hg (.bool f.q)
  obtain ⟨W3, hW3⟩ : ∃ W3, (((w1.setCell ⟨g, p * 3, none⟩ (.string f.n)).setCell ⟨g, p * 3 + 1, none⟩ (.string f.v)).setCell ⟨g, p * 3 + 2, none⟩ (.bool f.q)) = W3 := ⟨_, rfl⟩
  rw [hW3] at hH3 hC3 hB3
  rw [hW3]
  clear hW3 x0 x1 x2 y0 y1 y2 a0 a1 a2 p0 p1 p2 q0 q1 q2 u0 u1 u2 b0 b1 b2 hH hC hA hH1 hC1 hA1 hb1
  obtain ⟨x0, x1, x2, y0, y1, y2⟩ := row3 hH3
  go_wp2
  have hH4 := setC_heap 2 (.int .i64 ((L.length : Int) + 1)) hH3
  have hC4 := setC_other (B := B) 2 (.int .i64 ((L.length : Int) + 1)) hneBg.symm hC3
  go_end0
  refine ⟨rfl, ?_, hB3.setCell (p := ⟨B, 2, none⟩) HX.out.hB _⟩
  refine ⟨by rw [List.length_append]; exact hH4, ⟨_, hC4, by rw [set3C_size]; exact hCs, ?_⟩, HX.out.hB, HX.out.hg, hneBg, hfi, by simp; omega, hR⟩
  intro j hj
  by_cases hjl : j < L.length
  · rw [List.getElem_append_left hjl]
    refine set3C_other _ _ _ _ _ (fun e => ?_) (HCA.out j hjl)
    have := pl_inj (a := L.length) (b := j) hfi (by omega) (by omega) (HPE.out.trans e)
    omega
  · have hje : j = L.length := by simp at hj; omega
    subst hje
    rw [List.getElem_concat_length rfl, HPE.out]
    exact set3C_at _ _ _ _ hp hCs

theorem keepFR {W : World} {B R : Nat} {x y : Value} (a b c : Value) (h : B ≠ R) (h0 : W.cell? ⟨B, 0, none⟩ = some x) (h1 : W.cell? ⟨B, 2, none⟩ = some y) : (((W.setCell ⟨R, 0, none⟩ a).setCell ⟨R, 1, none⟩ b).setCell ⟨R, 2, none⟩ c).cell? ⟨B, 0, none⟩ = some x ∧ (((W.setCell ⟨R, 0, none⟩ a).setCell ⟨R, 1, none⟩ b).setCell ⟨R, 2, none⟩ c).cell? ⟨B, 2, none⟩ = some y := by
  constructor
  · rw [cell_set _ _ _ _ h, cell_set _ _ _ _ h, cell_set _ _ _ _ h]; exact h0
  · rw [cell_set _ _ _ _ h, cell_set _ _ _ _ h, cell_set _ _ _ _ h]; exact h1
theorem atC_cells {W : World} {g p : Nat} {C : Array Value} {t : TypeId} {f : Fd} (h : W.heap[g]? = some (.cells C t (0, 0))) (ha : atC C p f) : W.cell? ⟨g, p * 3, none⟩ = some (.string f.n) ∧ W.cell? ⟨g, p * 3 + 1, none⟩ = some (.string f.v) ∧ W.cell? ⟨g, p * 3 + 2, none⟩ = some (.bool f.q) :=
  ⟨(cell_of_row _ _ _ _ _ _ h).trans ha.1, (cell_of_row _ _ _ _ _ _ h).trans ha.2.1, (cell_of_row _ _ _ _ _ _ h).trans ha.2.2⟩

theorem sD {W : World} {B g p : Nat} {a b c : Value} {C : Array Value} {t t' : TypeId} {f : Fd} (hH : W.heap[B]? = some (.cells #[a, b, c] t (0, 0))) (hC : W.heap[g]? = some (.cells C t' (0, 0))) (ha : atC C p f) : W.cell? ⟨B, 0, none⟩ = some a ∧ W.cell? ⟨B, 2, none⟩ = some c ∧ W.cell? ⟨g, p * 3, none⟩ = some (.string f.n) ∧ W.cell? ⟨g, p * 3 + 1, none⟩ = some (.string f.v) ∧ W.cell? ⟨g, p * 3 + 2, none⟩ = some (.bool f.q) :=
  ⟨(row3 hH).1, (row3 hH).2.2.1, atC_cells hC ha⟩
set_option maxRecDepth 100000 in
set_option maxHeartbeats 1000000 in
theorem dropLast_any (base B g R fi : Nat) (L : List Fd) (f : Fd) (w : World) (h : Rg base w B g R fi (L ++ [f])) (hbw : base ≤ w.heap.size) :
    Calls Try.prog 117 #[.pointer (some ⟨B, 0, none⟩)] w fun e w' => e = .returned f.val ∧ Rg base w' B g R fi L ∧ Below base w w' ∧ ∀ r, r < w.heap.size → r ≠ B → w'.heap[r]? = w.heap[r]? := by
  obtain ⟨C, hC, hCs, hCa⟩ := h.places
  have hH := h.head
  have hBl := (Array.getElem?_eq_some_iff.1 hH).1
  have hgl := (Array.getElem?_eq_some_iff.1 hC).1
  have hfi := h.fiR
  have hR := h.rm
  have hle := h.le
  rw [List.length_append] at hle hH
  have hl1 : L.length + 1 ≤ R := hle
  clear hle
  have hpl := fun (w' : World) (hh : w'.heap[B]? = some (.cells #[.slice (some ⟨g, 0, none⟩) R R, .int .i64 fi, .int .i64 L.length] 183 (0, 0))) => place_b B g R fi L.length _ w' hh hfi (by omega) hR
  have hp := pl_lt (a := L.length) hfi (by omega)
  have hat := hCa L.length (by simp)
  rw [List.getElem_concat_length rfl] at hat
  obtain ⟨p, hpe⟩ : ∃ p, pl fi L.length R = p := ⟨_, rfl⟩
  rw [hpe] at hpl hp hat
  unfold Fd.val
  have HX : Hid (Rg base w B g R fi (L ++ [f])) := h
  have HCA : Hid (∀ j (h : j < L.length), atC C (pl fi j R) L[j]) := fun j hj => by
    have := hCa j (by simp; omega)
    rwa [List.getElem_append_left hj] at this
  have HAT : Hid (atC C p f) := hat
  clear h hCa hpe hat
  have hneg : g ≠ w.heap.size := by omega
  have hneB : B ≠ w.heap.size := by omega
  have hneBg : B ≠ g := HX.out.ne
  have hpi : (p : Int) < R := by omega
  have hl2 : (L.length : Int) < 1000 := by omega
  have hlc : ((L.length + [f].length : Nat) : Int) = (L.length : Int) + 1 := by simp
  rw [hlc] at hH
  clear hlc
  have hszs : (w.setCell ⟨B, 2, none⟩ (.int .i64 (L.length : Int))).heap.size = w.heap.size := by simp [World.setCell]
  have HH : Hid _ := blkT (setC_heap 2 (.int .i64 (L.length : Int)) hH) (.cells #[.string ⟨#[]⟩, .string ⟨#[]⟩, .bool false] 107)
  have HC : Hid _ := blkT (setC_other (B := B) 2 (.int .i64 (L.length : Int)) hneBg.symm hC) (.cells #[.string ⟨#[]⟩, .string ⟨#[]⟩, .bool false] 107)
  have hA := heap_alloc_last (w.setCell ⟨B, 2, none⟩ (.int .i64 (L.length : Int))) (.cells #[.string ⟨#[]⟩, .string ⟨#[]⟩, .bool false] 107)
  rw [hszs] at hA
  have HA : Hid _ := hA
  have HB : Hid (Below base w ((w.setCell ⟨B, 2, none⟩ (.int .i64 (L.length : Int))).alloc (.cells #[.string ⟨#[]⟩, .string ⟨#[]⟩, .bool false] 107))) := ((Below.refl base w).setCell (p := ⟨B, 2, none⟩) HX.out.hB (.int .i64 (L.length : Int))).alloc (by rw [hszs]; exact hbw) _
  have HK : Hid (∀ r, r < w.heap.size → r ≠ B → ((w.setCell ⟨B, 2, none⟩ (.int .i64 (L.length : Int))).alloc (.cells #[.string ⟨#[]⟩, .string ⟨#[]⟩, .bool false] 107)).heap[r]? = w.heap[r]?) := by
    intro r hr hne
    have h1 := setC_other (W := w) (B := B) (g := r) 2 (.int .i64 (L.length : Int)) hne rfl
    rw [Array.getElem?_eq_getElem hr] at h1 ⊢
    exact blkT h1 _
  obtain ⟨x0, x1, x2, y0, y1, y2⟩ := row3 hH
  clear hH hC hA hszs
  go_enter Try.func117, Try.ntmps117
  go_wp2
  clear x0 x1 x2 y0 y1 y2
  obtain ⟨W0, hW0⟩ : ∃ W0, ((w.setCell ⟨B, 2, none⟩ (.int .i64 (L.length : Int))).alloc (.cells #[.string ⟨#[]⟩, .string ⟨#[]⟩, .bool false] 107)) = W0 := ⟨_, rfl⟩
  rw [hW0] at HH HC HA HB HK ⊢
  clear hW0
  have hH : W0.drew.heap[B]? = some (.cells #[.slice (some ⟨g, 0, none⟩) R R, .int .i64 fi, .int .i64 L.length] 183 (0, 0)) := HH.out
  have hC : W0.drew.heap[g]? = some (.cells C 107 (0, 0)) := HC.out
  have hA : W0.drew.heap[w.heap.size]? = some (.cells #[.string ⟨#[]⟩, .string ⟨#[]⟩, .bool false] 107 (0, 0)) := HA.out
  have hB0 : Below base w W0.drew := HB.out.drew
  obtain ⟨x0, x1, x2, y0, y1, y2⟩ := row3 hH
  have hmx : Try.prog.follows .mixedOrders = true := by kernel_rfl
  go_region_held3 (fun w' => w'.cell? ⟨B, 0, none⟩ = some (.slice (some ⟨g, 0, none⟩) R R) ∧ w'.cell? ⟨B, 2, none⟩ = some (.int .i64 L.length) ∧ w'.cell? ⟨g, p * 3, none⟩ = some (.string f.n) ∧ w'.cell? ⟨g, p * 3 + 1, none⟩ = some (.string f.v) ∧ w'.cell? ⟨g, p * 3 + 2, none⟩ = some (.bool f.q)) (first | exact sD hH hC HAT.out | exact sD hH1 hC1 HAT.out | exact sD (setC_other _ _ hneB (setC_other _ _ hneB (setC_other _ _ hneB hH1))) (setC_other _ _ hneg (setC_other _ _ hneg (setC_other _ _ hneg hC1))) HAT.out) ((go_at_call 132; refine (hpl _ hH).mono ?_; clear hpl; rintro e w1 ⟨rfl, hb1⟩; have hH1 := (hb1.block _ (Array.getElem?_eq_some_iff.1 hH).1).trans hH; have hC1 := (hb1.block _ (Array.getElem?_eq_some_iff.1 hC).1).trans hC; have hA1 := (hb1.block _ (Array.getElem?_eq_some_iff.1 hA).1).trans hA; obtain ⟨u0, u1, u2, _, _, _⟩ := row3 hH1; obtain ⟨b0, b1, b2, f0, f1, f2⟩ := row3 hA1; obtain ⟨p0, p1, p2⟩ := atC_cells hC1 HAT.out))
  have hB1 : Below base w w1 := hB0.trans (hb1.mono (Nat.le_trans hbw hB0.size))
  go_wp2
  refine bodyPost_ret (results_cell_row rfl _ _ w.heap.size 107 #[.string f.n, .string f.v, .bool f.q] (0, 0) _ rfl (set3all_heap _ _ _ hA1) Try.underlying107 rfl infoF3) rfl ⟨rfl, ?_, ((hB1.setCell (p := ⟨w.heap.size, 0, none⟩) hbw _).setCell (p := ⟨w.heap.size, 1, none⟩) hbw _).setCell (p := ⟨w.heap.size, 2, none⟩) hbw _, ?_⟩
  · exact ⟨setC_other _ _ hneB (setC_other _ _ hneB (setC_other _ _ hneB hH1)), ⟨C, setC_other _ _ hneg (setC_other _ _ hneg (setC_other _ _ hneg hC1)), hCs, HCA.out⟩, HX.out.hB, HX.out.hg, hneBg, hfi, by omega, hR⟩
  intro r hr hne
  have hwz := (Array.getElem?_eq_some_iff.1 HA.out).1
  exact setC_other _ _ (by omega) (setC_other _ _ (by omega) (setC_other _ _ (by omega) ((hb1.block r (Nat.lt_trans hr hwz)).trans (HK.out r hr hne))))
end Go.Proofs.Ytghgcobnmmommaa

namespace Go.Proofs.Ytghgcobnmmommaa
open Go.RowKit
set_option linter.unusedVariables false

theorem fs_one (w : World) (f : Fd) : Fs (w.alloc (.cells #[.string f.n, .string f.v, .bool f.q] 107)) (some ⟨w.heap.size, 0, none⟩) 1 1 [f] :=
  own_Fs (base := w.heap.size) (own_one3 w w.heap.size 107 _ _ _ (Nat.le_refl _))
theorem grown_below {w w1 w2 : World} {base : Nat} {e : TypeId} {v : Value} {k : Nat} {xs : List Value} (h : Below base w w1) (hb : base ≤ w1.heap.size) (ho : w1.ownsRow base e 3 v k xs) (hg : w1.grownBy w2 v.ownBlock) : Below base w w2 :=
  h.grown hg hb (fun q hq => (ho.lt q hq).1)

set_option maxRecDepth 100000 in
set_option maxHeartbeats 2000000 in
theorem list_any (base B g R fi : Nat) (L : List Fd) (w : World) (h : Rg base w B g R fi L) (hbw : base ≤ w.heap.size) :
    Calls Try.prog 116 #[.pointer (some ⟨B, 0, none⟩)] w fun e w' => ∃ a c, e = .returned (.slice a L.length c) ∧ w'.ownsRow w.heap.size 107 3 (.slice a L.length c) L.length (cellsF L) ∧ Below w.heap.size w w' := by
  have hH := h.head
  have hfi := h.fiR
  have hR := h.rm
  have hle := h.le
  obtain ⟨x0, x1, x2, y0, y1, y2⟩ := row3 hH
  have HX : Hid (Rg base w B g R fi L) := h
  have hgl : g < w.heap.size := by obtain ⟨C, hC, _⟩ := h.places; exact (Array.getElem?_eq_some_iff.1 hC).1
  clear h
  have hl2 : (L.length : Int) ≤ 1000 := by omega
  go_enter Try.func116, Try.ntmps116
  go_wp2
  clear x0 x1 x2 y0 y1 y2 hH
  go_loopw [3, 9] (fun v i wr => ∃ (k : Nat) (a : Option Addr) (c : Nat), k ≤ L.length ∧ i = .int .i64 k ∧ v = .slice a k c ∧ wr.ownsRow w.heap.size 107 3 (.slice a k c) k (cellsF (L.take k)) ∧ Below w.heap.size w wr) (fun _ i _ => L.length - (intOf i).toNat)
  case atStart => exact ⟨0, none, 0, by omega, rfl, rfl, by simpa [cellsF] using World.ownsRow_nil w w.heap.size 107 3, Below.refl _ _⟩
  case round =>
    obtain ⟨k, a, c, hk, rfl, rfl, hown, hbel⟩ := hrel
    have HO : Hid (wr.ownsRow w.heap.size 107 3 (.slice a k c) k (cellsF (L.take k))) := hown
    have HBE : Hid (Below w.heap.size w wr) := hbel
    clear hown hbel
    by_cases hlt : k < L.length
    · have hlt' : (k : Int) < L.length := by omega
      have hX1 := HX.out.below HBE.out
      obtain ⟨C, hC0, hCs, hCa⟩ := hX1.places
      have hH0 := hX1.head
      have hat := hCa k hlt
      have hpl := fun (w' : World) (hh : w'.heap[B]? = some (.cells #[.slice (some ⟨g, 0, none⟩) R R, .int .i64 fi, .int .i64 L.length] 183 (0, 0))) => place_b B g R fi k _ w' hh hfi (by omega) hR
      have hp := pl_lt (a := k) hfi (by omega)
      obtain ⟨p, hpe⟩ : ∃ p, pl fi k R = p := ⟨_, rfl⟩
      obtain ⟨f, hfe⟩ : ∃ f, L[k] = f := ⟨_, rfl⟩
      rw [hpe] at hpl hp hat
      rw [hfe] at hat
      have hpi : (p : Int) < R := by omega
      have HT : Hid (L.take (k + 1) = L.take k ++ [f]) := by show L.take (k + 1) = L.take k ++ [f]; rw [List.take_succ_eq_append_getElem hlt, hfe]
      have HAT : Hid (atC C p f) := hat
      clear hpe hfe hat hCa hX1
      have hH : wr.drew.heap[B]? = some (.cells #[.slice (some ⟨g, 0, none⟩) R R, .int .i64 fi, .int .i64 L.length] 183 (0, 0)) := hH0
      have hC : wr.drew.heap[g]? = some (.cells C 107 (0, 0)) := hC0
      have hOd : wr.drew.ownsRow w.heap.size 107 3 (.slice a k c) k (cellsF (L.take k)) := HO.out
      have hB0 : Below w.heap.size w wr.drew := HBE.out.drew
      have x0 := (row3 hH).1
      have hmx : Try.prog.follows .mixedOrders = true := by kernel_rfl
      clear hH0 hC0
      go_wp2
      go_region_held3 (fun w' => w'.cell? ⟨B, 0, none⟩ = some (.slice (some ⟨g, 0, none⟩) R R) ∧ w'.cell? ⟨B, 2, none⟩ = some (.int .i64 L.length) ∧ w'.cell? ⟨g, p * 3, none⟩ = some (.string f.n) ∧ w'.cell? ⟨g, p * 3 + 1, none⟩ = some (.string f.v) ∧ w'.cell? ⟨g, p * 3 + 2, none⟩ = some (.bool f.q)) (first | exact sD hH hC HAT.out | exact sD hH1 hC1 HAT.out | exact sD (blkT hH1 _) (blkT hC1 _) HAT.out | exact sD hH4 hC4 HAT.out) ((first | (go_at_call 132; refine (hpl _ hH).mono ?_; clear hpl; rintro e w1 ⟨rfl, hb1⟩; have hH1 := (hb1.block _ (Array.getElem?_eq_some_iff.1 hH).1).trans hH; have hC1 := (hb1.block _ (Array.getElem?_eq_some_iff.1 hC).1).trans hC; obtain ⟨p0, p1, p2⟩ := atC_cells hC1 HAT.out; have hO1 := own_belowT hOd hb1; have hB1 := hB0.trans (hb1.mono hB0.size)) | (refine step_appFs _ (by rfl) _ _ (by rfl) w.heap.size _ _ _ (by rfl) (hO1.alloc _) _ 1 1 [f] (by rfl) (fs_one w1 f) (by omega) (by have := hB1.size; simp; omega) ?_; intro v4 w4 hown4 hgrow4; obtain ⟨a4, c4, rfl⟩ := own_formT hown4; have hH4 := (hgrow4.block _ (Array.getElem?_eq_some_iff.1 (blkT hH1 _)).1 (not_rowT hH1 (by decide) hO1)).trans (blkT hH1 _); have hC4 := (hgrow4.block _ (Array.getElem?_eq_some_iff.1 (blkT hC1 _)).1 (fun e => Nat.lt_irrefl _ (Nat.lt_of_lt_of_le hgl (hO1.lt g e.symm).1))).trans (blkT hC1 _))))
      go_wp2
      go_roundw
      case rel => exact ⟨k + 1, a4, c4, by omega, by go_num, rfl, by rw [HT.out, cellsF_append]; exact hown4, grown_below (hB1.alloc hB1.size _) (by have := hB1.size; simp; omega) (hO1.alloc _) hgrow4⟩
      case measure => simp [intOf]; omega
    · have hke : k = L.length := by omega
      subst hke
      go_wp2
      go_ret
      have ho := HO.out
      rw [List.take_length] at ho
      exact ⟨a, c, rfl, ho, HBE.out⟩
end Go.Proofs.Ytghgcobnmmommaa
