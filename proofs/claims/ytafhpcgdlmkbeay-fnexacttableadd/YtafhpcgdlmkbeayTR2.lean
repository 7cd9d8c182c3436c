import Derived.Test.YtafhpcgdlmkbeayTR1
namespace Go.Proofs.Ytafhpcgdlmkbeay
open Go.RowKit
set_option linter.unusedVariables false

theorem keep5b {w1 w2 : World} {B V : Nat} {a b x y z : Value} (hb : Below w1.heap.size w1 w2) (h0 : w1.cell? ⟨B, 0, none⟩ = some a) (h1 : w1.cell? ⟨B, 2, none⟩ = some b) (h2 : w1.cell? ⟨V, 0, none⟩ = some x) (h3 : w1.cell? ⟨V, 1, none⟩ = some y) (h4 : w1.cell? ⟨V, 2, none⟩ = some z) :
    w2.cell? ⟨B, 0, none⟩ = some a ∧ w2.cell? ⟨B, 2, none⟩ = some b ∧ w2.cell? ⟨V, 0, none⟩ = some x ∧ w2.cell? ⟨V, 1, none⟩ = some y ∧ w2.cell? ⟨V, 2, none⟩ = some z :=
  ⟨(hb.cell (p := ⟨B, 0, none⟩) (World.block_lt_of_cell? w1 _ h0)).trans h0, (hb.cell (p := ⟨B, 2, none⟩) (World.block_lt_of_cell? w1 _ h1)).trans h1, (hb.cell (p := ⟨V, 0, none⟩) (World.block_lt_of_cell? w1 _ h2)).trans h2, (hb.cell (p := ⟨V, 1, none⟩) (World.block_lt_of_cell? w1 _ h3)).trans h3, (hb.cell (p := ⟨V, 2, none⟩) (World.block_lt_of_cell? w1 _ h4)).trans h4⟩
theorem keep5c {W : World} {B V g : Nat} {a b x y z : Value} (p : Nat) (u v q : Value) (hB : B ≠ g) (hV : V ≠ g) (h0 : W.cell? ⟨B, 0, none⟩ = some a) (h1 : W.cell? ⟨B, 2, none⟩ = some b) (h2 : W.cell? ⟨V, 0, none⟩ = some x) (h3 : W.cell? ⟨V, 1, none⟩ = some y) (h4 : W.cell? ⟨V, 2, none⟩ = some z) :
    (((W.setCell ⟨g, p, none⟩ u).setCell ⟨g, p + 1, none⟩ v).setCell ⟨g, p + 2, none⟩ q).cell? ⟨B, 0, none⟩ = some a ∧ (((W.setCell ⟨g, p, none⟩ u).setCell ⟨g, p + 1, none⟩ v).setCell ⟨g, p + 2, none⟩ q).cell? ⟨B, 2, none⟩ = some b ∧ (((W.setCell ⟨g, p, none⟩ u).setCell ⟨g, p + 1, none⟩ v).setCell ⟨g, p + 2, none⟩ q).cell? ⟨V, 0, none⟩ = some x ∧ (((W.setCell ⟨g, p, none⟩ u).setCell ⟨g, p + 1, none⟩ v).setCell ⟨g, p + 2, none⟩ q).cell? ⟨V, 1, none⟩ = some y ∧ (((W.setCell ⟨g, p, none⟩ u).setCell ⟨g, p + 1, none⟩ v).setCell ⟨g, p + 2, none⟩ q).cell? ⟨V, 2, none⟩ = some z := by
  refine ⟨?_, ?_, ?_, ?_, ?_⟩
  · rw [cell_set _ _ _ _ hB, cell_set _ _ _ _ hB, cell_set _ _ _ _ hB]; exact h0
  · rw [cell_set _ _ _ _ hB, cell_set _ _ _ _ hB, cell_set _ _ _ _ hB]; exact h1
  · rw [cell_set _ _ _ _ hV, cell_set _ _ _ _ hV, cell_set _ _ _ _ hV]; exact h2
  · rw [cell_set _ _ _ _ hV, cell_set _ _ _ _ hV, cell_set _ _ _ _ hV]; exact h3
  · rw [cell_set _ _ _ _ hV, cell_set _ _ _ _ hV, cell_set _ _ _ _ hV]; exact h4

set_option maxRecDepth 100000 in
set_option maxHeartbeats 1000000 in
theorem addLast_any (base B g R fi : Nat) (L : List Fd) (f : Fd) (w : World) (h : Rg base w B g R fi L) (hl : L.length < R) (hbw : base ≤ w.heap.size) :
    Calls Try.prog 51 #[.pointer (some ⟨B, 0, none⟩), f.val] w fun e w' => e = .returned (.tuple #[]) ∧ Rg base w' B g R fi (L ++ [f]) ∧ Below base w w' := by
  obtain ⟨C, hC, hCs, hCa⟩ := h.places
  have hH := h.head
  have hBl := (Array.getElem?_eq_some_iff.1 hH).1
  have hgl := (Array.getElem?_eq_some_iff.1 hC).1
  have hfi := h.fiR
  have hR := h.rm
  have hpl := fun (w' : World) (hh : w'.heap[B]? = some (.cells #[.slice (some ⟨g, 0, none⟩) R R, .int .i64 fi, .int .i64 L.length] 68 (0, 0))) => place_b B g R fi L.length _ w' hh hfi (by omega) hR
  have hp := pl_lt (a := L.length) hfi (by omega)
  obtain ⟨p, hpe⟩ : ∃ p, pl fi L.length R = p := ⟨_, rfl⟩
  rw [hpe] at hpl hp
  have HPE : Hid (pl fi L.length R = p) := hpe
  unfold Fd.val
  have HX : Hid (Rg base w B g R fi L) := h
  have HCA : Hid (∀ j (h : j < L.length), atC C (pl fi j R) L[j]) := hCa
  clear h hCa hpe
  have hneg : g ≠ w.heap.size := by omega
  have hneB : B ≠ w.heap.size := by omega
  have hneBg : B ≠ g := HX.out.ne
  have hpi : (p : Int) < R := by omega
  have hl1 : (L.length : Int) < 1000 := by omega
  have HH : Hid _ := blkT hH (.cells #[.string f.n, .string f.v, .bool f.q] 37)
  have HC : Hid _ := blkT hC (.cells #[.string f.n, .string f.v, .bool f.q] 37)
  have HA : Hid _ := heap_alloc_last w (.cells #[.string f.n, .string f.v, .bool f.q] 37)
  have HB : Hid (Below base w (w.alloc (.cells #[.string f.n, .string f.v, .bool f.q] 37))) := (Below.refl _ _).alloc hbw _
  clear hH hC
  go_enter Try.func51, Try.ntmps51
  go_wp2
  obtain ⟨W0, hW0⟩ : ∃ W0, (w.alloc (.cells #[.string f.n, .string f.v, .bool f.q] 37)) = W0 := ⟨_, rfl⟩
  rw [hW0] at HH HC HA HB ⊢
  clear hW0
  have hH : W0.drew.heap[B]? = some (.cells #[.slice (some ⟨g, 0, none⟩) R R, .int .i64 fi, .int .i64 L.length] 68 (0, 0)) := HH.out
  have hC : W0.drew.heap[g]? = some (.cells C 37 (0, 0)) := HC.out
  have hA : W0.drew.heap[w.heap.size]? = some (.cells #[.string f.n, .string f.v, .bool f.q] 37 (0, 0)) := HA.out
  have hB0 : Below base w W0.drew := HB.out.drew
  obtain ⟨x0, x1, x2, y0, y1, y2⟩ := row3 hH
  obtain ⟨a0, a1, a2, _, _, _⟩ := row3 hA
  have hmx : Try.prog.follows .mixedOrders = true := by kernel_rfl
  go_region_held3 (fun w' => w'.cell? ⟨B, 0, none⟩ = some (.slice (some ⟨g, 0, none⟩) R R) ∧ w'.cell? ⟨B, 2, none⟩ = some (.int .i64 L.length) ∧ w'.cell? ⟨w.heap.size, 0, none⟩ = some (.string f.n) ∧ w'.cell? ⟨w.heap.size, 1, none⟩ = some (.string f.v) ∧ w'.cell? ⟨w.heap.size, 2, none⟩ = some (.bool f.q)) (first | exact ⟨x0, x2, a0, a1, a2⟩ | exact keep5b hb1 x0 x2 a0 a1 a2 | exact keep5c _ _ _ _ hneBg hneg.symm u0 u2 b0 b1 b2) ((go_at_call 52; refine (hpl _ hH).mono ?_; clear hpl; rintro e w1 ⟨rfl, hb1⟩; have hH1 := (hb1.block _ (Array.getElem?_eq_some_iff.1 hH).1).trans hH; have hC1 := (hb1.block _ (Array.getElem?_eq_some_iff.1 hC).1).trans hC; have hA1 := (hb1.block _ (Array.getElem?_eq_some_iff.1 hA).1).trans hA; obtain ⟨u0, u1, u2, _, _, _⟩ := row3 hH1; obtain ⟨b0, b1, b2, _, _, _⟩ := row3 hA1; obtain ⟨_, _, _, p0, p1, p2, q0, q1, q2⟩ := rowP hC1 hCs hp))
  have hB1 : Below base w w1 := hB0.trans (hb1.mono (Nat.le_trans hbw hB0.size))
  have hH3 := setC_other (B := g) (p * 3 + 2) (.bool f.q) hneBg (setC_other (B := g) (p * 3 + 1) (.string f.v) hneBg (setC_other (B := g) (p * 3) (.string f.n) hneBg hH1))
  have hC3 := set3C_heap (p := p) f hC1
  have hB3 := ((hB1.setCell (p := ⟨g, p * 3, none⟩) HX.out.hg (.string f.n)).setCell (p := ⟨g, p * 3 + 1, none⟩) HX.out.hg (.string f.v)).setCell (p := ⟨g, p * 3 + 2, none⟩) HX.out.hg (.bool f.q)
  obtain ⟨W3, hW3⟩ : ∃ W3, (((w1.setCell ⟨g, p * 3, none⟩ (.string f.n)).setCell ⟨g, p * 3 + 1, none⟩ (.string f.v)).setCell ⟨g, p * 3 + 2, none⟩ (.bool f.q)) = W3 := ⟨_, rfl⟩
  rw [hW3] at hH3 hC3 hB3
  rw [hW3]
  clear hW3 x0 x1 x2 y0 y1 y2 a0 a1 a2 p0 p1 p2 q0 q1 q2 u0 u1 u2 b0 b1 b2 hH hC hA hH1 hC1 hA1 hb1
  obtain ⟨x0, x1, x2, y0, y1, y2⟩ := row3 hH3
  go_wp2
  have hH4 := setC_heap 2 (.int .i64 ((L.length : Int) + 1)) hH3
  have hC4 := setC_other (B := B) 2 (.int .i64 ((L.length : Int) + 1)) hneBg.symm hC3
  go_end0
  refine ⟨rfl, ?_, hB3.setCell (p := ⟨B, 2, none⟩) HX.out.hB _⟩
  refine ⟨by rw [List.length_append]; exact hH4, ⟨_, hC4, by rw [set3C_size]; exact hCs, ?_⟩, HX.out.hB, HX.out.hg, hneBg, hfi, by simp; omega, hR⟩
  intro j hj
  by_cases hjl : j < L.length
  · rw [List.getElem_append_left hjl]
    refine set3C_other _ _ _ _ _ (fun e => ?_) (HCA.out j hjl)
    have := pl_inj (a := L.length) (b := j) hfi (by omega) (by omega) (HPE.out.trans e)
    omega
  · have hje : j = L.length := by simp at hj; omega
    subst hje
    rw [List.getElem_concat_length rfl, HPE.out]
    exact set3C_at _ _ _ _ hp hCs

theorem keepF {W : World} {B R : Nat} {x y : Value} (a b c : Value) (h : B ≠ R) (h0 : W.cell? ⟨B, 0, none⟩ = some x) (h1 : W.cell? ⟨B, 2, none⟩ = some y) : (((W.setCell ⟨R, 0, none⟩ a).setCell ⟨R, 1, none⟩ b).setCell ⟨R, 2, none⟩ c).cell? ⟨B, 0, none⟩ = some x ∧ (((W.setCell ⟨R, 0, none⟩ a).setCell ⟨R, 1, none⟩ b).setCell ⟨R, 2, none⟩ c).cell? ⟨B, 2, none⟩ = some y := by
  constructor
  · rw [cell_set _ _ _ _ h, cell_set _ _ _ _ h, cell_set _ _ _ _ h]; exact h0
  · rw [cell_set _ _ _ _ h, cell_set _ _ _ _ h, cell_set _ _ _ _ h]; exact h1
theorem atC_cells {W : World} {g p : Nat} {C : Array Value} {t : TypeId} {f : Fd} (h : W.heap[g]? = some (.cells C t (0, 0))) (ha : atC C p f) : W.cell? ⟨g, p * 3, none⟩ = some (.string f.n) ∧ W.cell? ⟨g, p * 3 + 1, none⟩ = some (.string f.v) ∧ W.cell? ⟨g, p * 3 + 2, none⟩ = some (.bool f.q) :=
  ⟨(cell_of_row _ _ _ _ _ _ h).trans ha.1, (cell_of_row _ _ _ _ _ _ h).trans ha.2.1, (cell_of_row _ _ _ _ _ _ h).trans ha.2.2⟩

theorem sD {W : World} {B g p : Nat} {a b c : Value} {C : Array Value} {t t' : TypeId} {f : Fd} (hH : W.heap[B]? = some (.cells #[a, b, c] t (0, 0))) (hC : W.heap[g]? = some (.cells C t' (0, 0))) (ha : atC C p f) : W.cell? ⟨B, 0, none⟩ = some a ∧ W.cell? ⟨B, 2, none⟩ = some c ∧ W.cell? ⟨g, p * 3, none⟩ = some (.string f.n) ∧ W.cell? ⟨g, p * 3 + 1, none⟩ = some (.string f.v) ∧ W.cell? ⟨g, p * 3 + 2, none⟩ = some (.bool f.q) :=
  ⟨(row3 hH).1, (row3 hH).2.2.1, atC_cells hC ha⟩
set_option maxRecDepth 100000 in
set_option maxHeartbeats 1000000 in
theorem dropLast_any (base B g R fi : Nat) (L : List Fd) (f : Fd) (w : World) (h : Rg base w B g R fi (L ++ [f])) (hbw : base ≤ w.heap.size) :
    Calls Try.prog 55 #[.pointer (some ⟨B, 0, none⟩)] w fun e w' => e = .returned f.val ∧ Rg base w' B g R fi L ∧ Below base w w' ∧ ∀ r, r < w.heap.size → r ≠ B → w'.heap[r]? = w.heap[r]? := by
  obtain ⟨C, hC, hCs, hCa⟩ := h.places
  have hH := h.head
  have hBl := (Array.getElem?_eq_some_iff.1 hH).1
  have hgl := (Array.getElem?_eq_some_iff.1 hC).1
  have hfi := h.fiR
  have hR := h.rm
  have hle := h.le
  rw [List.length_append] at hle hH
  have hl1 : L.length + 1 ≤ R := hle
  clear hle
  have hpl := fun (w' : World) (hh : w'.heap[B]? = some (.cells #[.slice (some ⟨g, 0, none⟩) R R, .int .i64 fi, .int .i64 L.length] 68 (0, 0))) => place_b B g R fi L.length _ w' hh hfi (by omega) hR
  have hp := pl_lt (a := L.length) hfi (by omega)
  have hat := hCa L.length (by simp)
  rw [List.getElem_concat_length rfl] at hat
  obtain ⟨p, hpe⟩ : ∃ p, pl fi L.length R = p := ⟨_, rfl⟩
  rw [hpe] at hpl hp hat
  unfold Fd.val
  have HX : Hid (Rg base w B g R fi (L ++ [f])) := h
  have HCA : Hid (∀ j (h : j < L.length), atC C (pl fi j R) L[j]) := fun j hj => by
    have := hCa j (by simp; omega)
    rwa [List.getElem_append_left hj] at this
  have HAT : Hid (atC C p f) := hat
  clear h hCa hpe hat
  have hneg : g ≠ w.heap.size := by omega
  have hneB : B ≠ w.heap.size := by omega
  have hneBg : B ≠ g := HX.out.ne
  have hpi : (p : Int) < R := by omega
  have hl2 : (L.length : Int) < 1000 := by omega
  have hlc : ((L.length + [f].length : Nat) : Int) = (L.length : Int) + 1 := by simp
  rw [hlc] at hH
  clear hlc
  have hszs : (w.setCell ⟨B, 2, none⟩ (.int .i64 (L.length : Int))).heap.size = w.heap.size := by simp [World.setCell]
  have HH : Hid _ := blkT (setC_heap 2 (.int .i64 (L.length : Int)) hH) (.cells #[.string ⟨#[]⟩, .string ⟨#[]⟩, .bool false] 37)
  have HC : Hid _ := blkT (setC_other (B := B) 2 (.int .i64 (L.length : Int)) hneBg.symm hC) (.cells #[.string ⟨#[]⟩, .string ⟨#[]⟩, .bool false] 37)
  have hA := heap_alloc_last (w.setCell ⟨B, 2, none⟩ (.int .i64 (L.length : Int))) (.cells #[.string ⟨#[]⟩, .string ⟨#[]⟩, .bool false] 37)
  rw [hszs] at hA
  have HA : Hid _ := hA
  have HB : Hid (Below base w ((w.setCell ⟨B, 2, none⟩ (.int .i64 (L.length : Int))).alloc (.cells #[.string ⟨#[]⟩, .string ⟨#[]⟩, .bool false] 37))) := ((Below.refl base w).setCell (p := ⟨B, 2, none⟩) HX.out.hB (.int .i64 (L.length : Int))).alloc (by rw [hszs]; exact hbw) _
  have HK : Hid (∀ r, r < w.heap.size → r ≠ B → ((w.setCell ⟨B, 2, none⟩ (.int .i64 (L.length : Int))).alloc (.cells #[.string ⟨#[]⟩, .string ⟨#[]⟩, .bool false] 37)).heap[r]? = w.heap[r]?) := by
    intro r hr hne
    have h1 := setC_other (W := w) (B := B) (g := r) 2 (.int .i64 (L.length : Int)) hne rfl
    rw [Array.getElem?_eq_getElem hr] at h1 ⊢
    exact blkT h1 _
  obtain ⟨x0, x1, x2, y0, y1, y2⟩ := row3 hH
  clear hH hC hA hszs
  go_enter Try.func55, Try.ntmps55
  go_wp2
  clear x0 x1 x2 y0 y1 y2
  obtain ⟨W0, hW0⟩ : ∃ W0, ((w.setCell ⟨B, 2, none⟩ (.int .i64 (L.length : Int))).alloc (.cells #[.string ⟨#[]⟩, .string ⟨#[]⟩, .bool false] 37)) = W0 := ⟨_, rfl⟩
  rw [hW0] at HH HC HA HB HK ⊢
  clear hW0
  have hH : W0.drew.heap[B]? = some (.cells #[.slice (some ⟨g, 0, none⟩) R R, .int .i64 fi, .int .i64 L.length] 68 (0, 0)) := HH.out
  have hC : W0.drew.heap[g]? = some (.cells C 37 (0, 0)) := HC.out
  have hA : W0.drew.heap[w.heap.size]? = some (.cells #[.string ⟨#[]⟩, .string ⟨#[]⟩, .bool false] 37 (0, 0)) := HA.out
  have hB0 : Below base w W0.drew := HB.out.drew
  obtain ⟨x0, x1, x2, y0, y1, y2⟩ := row3 hH
  have hmx : Try.prog.follows .mixedOrders = true := by kernel_rfl
  go_region_held3 (fun w' => w'.cell? ⟨B, 0, none⟩ = some (.slice (some ⟨g, 0, none⟩) R R) ∧ w'.cell? ⟨B, 2, none⟩ = some (.int .i64 L.length) ∧ w'.cell? ⟨g, p * 3, none⟩ = some (.string f.n) ∧ w'.cell? ⟨g, p * 3 + 1, none⟩ = some (.string f.v) ∧ w'.cell? ⟨g, p * 3 + 2, none⟩ = some (.bool f.q)) (first | exact sD hH hC HAT.out | exact sD hH1 hC1 HAT.out | exact sD (setC_other _ _ hneB (setC_other _ _ hneB (setC_other _ _ hneB hH1))) (setC_other _ _ hneg (setC_other _ _ hneg (setC_other _ _ hneg hC1))) HAT.out) ((go_at_call 52; refine (hpl _ hH).mono ?_; clear hpl; rintro e w1 ⟨rfl, hb1⟩; have hH1 := (hb1.block _ (Array.getElem?_eq_some_iff.1 hH).1).trans hH; have hC1 := (hb1.block _ (Array.getElem?_eq_some_iff.1 hC).1).trans hC; have hA1 := (hb1.block _ (Array.getElem?_eq_some_iff.1 hA).1).trans hA; obtain ⟨u0, u1, u2, _, _, _⟩ := row3 hH1; obtain ⟨b0, b1, b2, f0, f1, f2⟩ := row3 hA1; obtain ⟨p0, p1, p2⟩ := atC_cells hC1 HAT.out))
  have hB1 : Below base w w1 := hB0.trans (hb1.mono (Nat.le_trans hbw hB0.size))
  go_wp2
  refine bodyPost_ret (results_cell_row rfl _ _ w.heap.size 37 #[.string f.n, .string f.v, .bool f.q] (0, 0) _ rfl (set3all_heap _ _ _ hA1) Try.underlying37 rfl infoF3) rfl ⟨rfl, ?_, ((hB1.setCell (p := ⟨w.heap.size, 0, none⟩) hbw _).setCell (p := ⟨w.heap.size, 1, none⟩) hbw _).setCell (p := ⟨w.heap.size, 2, none⟩) hbw _, ?_⟩
  · exact ⟨setC_other _ _ hneB (setC_other _ _ hneB (setC_other _ _ hneB hH1)), ⟨C, setC_other _ _ hneg (setC_other _ _ hneg (setC_other _ _ hneg hC1)), hCs, HCA.out⟩, HX.out.hB, HX.out.hg, hneBg, hfi, by omega, hR⟩
  intro r hr hne
  have hwz := (Array.getElem?_eq_some_iff.1 HA.out).1
  exact setC_other _ _ (by omega) (setC_other _ _ (by omega) (setC_other _ _ (by omega) ((hb1.block r (Nat.lt_trans hr hwz)).trans (HK.out r hr hne))))
end Go.Proofs.Ytafhpcgdlmkbeay
