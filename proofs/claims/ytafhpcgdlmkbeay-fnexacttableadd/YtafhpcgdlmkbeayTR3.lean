import Derived.Test.YtafhpcgdlmkbeayTR2
namespace Go.Proofs.Ytafhpcgdlmkbeay
open Go.RowKit
set_option linter.unusedVariables false

theorem fs_one (w : World) (f : Fd) : Fs (w.alloc (.cells #[.string f.n, .string f.v, .bool f.q] 37)) (some ⟨w.heap.size, 0, none⟩) 1 1 [f] :=
  own_Fs (base := w.heap.size) (own_one3 w w.heap.size 37 _ _ _ (Nat.le_refl _))
theorem grown_below {w w1 w2 : World} {base : Nat} {e : TypeId} {v : Value} {k : Nat} {xs : List Value} (h : Below base w w1) (hb : base ≤ w1.heap.size) (ho : w1.ownsRow base e 3 v k xs) (hg : w1.grownBy w2 v.ownBlock) : Below base w w2 :=
  h.grown hg hb (fun q hq => (ho.lt q hq).1)

set_option maxRecDepth 100000 in
set_option maxHeartbeats 2000000 in
theorem list_any (base B g R fi : Nat) (L : List Fd) (w : World) (h : Rg base w B g R fi L) (hbw : base ≤ w.heap.size) :
    Calls Try.prog 54 #[.pointer (some ⟨B, 0, none⟩)] w fun e w' => ∃ a c, e = .returned (.slice a L.length c) ∧ w'.ownsRow w.heap.size 37 3 (.slice a L.length c) L.length (cellsF L) ∧ Below w.heap.size w w' := by
  have hH := h.head
  have hfi := h.fiR
  have hR := h.rm
  have hle := h.le
  obtain ⟨x0, x1, x2, y0, y1, y2⟩ := row3 hH
  have HX : Hid (Rg base w B g R fi L) := h
  have hgl : g < w.heap.size := by obtain ⟨C, hC, _⟩ := h.places; exact (Array.getElem?_eq_some_iff.1 hC).1
  clear h
  have hl2 : (L.length : Int) ≤ 1000 := by omega
  go_enter Try.func54, Try.ntmps54
  go_wp2
  clear x0 x1 x2 y0 y1 y2 hH
  go_loopw [3, 9] (fun v i wr => ∃ (k : Nat) (a : Option Addr) (c : Nat), k ≤ L.length ∧ i = .int .i64 k ∧ v = .slice a k c ∧ wr.ownsRow w.heap.size 37 3 (.slice a k c) k (cellsF (L.take k)) ∧ Below w.heap.size w wr) (fun _ i _ => L.length - (intOf i).toNat)
  case atStart => exact ⟨0, none, 0, by omega, rfl, rfl, by simpa [cellsF] using World.ownsRow_nil w w.heap.size 37 3, Below.refl _ _⟩
  case round =>
    obtain ⟨k, a, c, hk, rfl, rfl, hown, hbel⟩ := hrel
    have HO : Hid (wr.ownsRow w.heap.size 37 3 (.slice a k c) k (cellsF (L.take k))) := hown
    have HBE : Hid (Below w.heap.size w wr) := hbel
    clear hown hbel
    by_cases hlt : k < L.length
    · have hlt' : (k : Int) < L.length := by omega
      have hX1 := HX.out.below HBE.out
      obtain ⟨C, hC0, hCs, hCa⟩ := hX1.places
      have hH0 := hX1.head
      have hat := hCa k hlt
      have hpl := fun (w' : World) (hh : w'.heap[B]? = some (.cells #[.slice (some ⟨g, 0, none⟩) R R, .int .i64 fi, .int .i64 L.length] 68 (0, 0))) => place_b B g R fi k _ w' hh hfi (by omega) hR
      have hp := pl_lt (a := k) hfi (by omega)
      obtain ⟨p, hpe⟩ : ∃ p, pl fi k R = p := ⟨_, rfl⟩
      obtain ⟨f, hfe⟩ : ∃ f, L[k] = f := ⟨_, rfl⟩
      rw [hpe] at hpl hp hat
      rw [hfe] at hat
      have hpi : (p : Int) < R := by omega
      have HT : Hid (L.take (k + 1) = L.take k ++ [f]) := by show L.take (k + 1) = L.take k ++ [f]; rw [List.take_succ_eq_append_getElem hlt, hfe]
      have HAT : Hid (atC C p f) := hat
      clear hpe hfe hat hCa hX1
      have hH : wr.drew.heap[B]? = some (.cells #[.slice (some ⟨g, 0, none⟩) R R, .int .i64 fi, .int .i64 L.length] 68 (0, 0)) := hH0
      have hC : wr.drew.heap[g]? = some (.cells C 37 (0, 0)) := hC0
      have hOd : wr.drew.ownsRow w.heap.size 37 3 (.slice a k c) k (cellsF (L.take k)) := HO.out
      have hB0 : Below w.heap.size w wr.drew := HBE.out.drew
      have x0 := (row3 hH).1
      have hmx : Try.prog.follows .mixedOrders = true := by kernel_rfl
      clear hH0 hC0
      go_wp2
      go_region_held3 (fun w' => w'.cell? ⟨B, 0, none⟩ = some (.slice (some ⟨g, 0, none⟩) R R) ∧ w'.cell? ⟨B, 2, none⟩ = some (.int .i64 L.length) ∧ w'.cell? ⟨g, p * 3, none⟩ = some (.string f.n) ∧ w'.cell? ⟨g, p * 3 + 1, none⟩ = some (.string f.v) ∧ w'.cell? ⟨g, p * 3 + 2, none⟩ = some (.bool f.q)) (first | exact sD hH hC HAT.out | exact sD hH1 hC1 HAT.out | exact sD (blkT hH1 _) (blkT hC1 _) HAT.out | exact sD hH4 hC4 HAT.out) ((first | (go_at_call 52; refine (hpl _ hH).mono ?_; clear hpl; rintro e w1 ⟨rfl, hb1⟩; have hH1 := (hb1.block _ (Array.getElem?_eq_some_iff.1 hH).1).trans hH; have hC1 := (hb1.block _ (Array.getElem?_eq_some_iff.1 hC).1).trans hC; obtain ⟨p0, p1, p2⟩ := atC_cells hC1 HAT.out; have hO1 := own_belowT hOd hb1; have hB1 := hB0.trans (hb1.mono hB0.size)) | (refine step_appFs _ (by rfl) _ _ (by rfl) w.heap.size _ _ _ (by rfl) (hO1.alloc _) _ 1 1 [f] (by rfl) (fs_one w1 f) (by omega) (by have := hB1.size; simp; omega) ?_; intro v4 w4 hown4 hgrow4; obtain ⟨a4, c4, rfl⟩ := own_formT hown4; have hH4 := (hgrow4.block _ (Array.getElem?_eq_some_iff.1 (blkT hH1 _)).1 (not_rowT hH1 (by decide) hO1)).trans (blkT hH1 _); have hC4 := (hgrow4.block _ (Array.getElem?_eq_some_iff.1 (blkT hC1 _)).1 (fun e => Nat.lt_irrefl _ (Nat.lt_of_lt_of_le hgl (hO1.lt g e.symm).1))).trans (blkT hC1 _))))
      go_wp2
      go_roundw
      case rel => exact ⟨k + 1, a4, c4, by omega, by go_num, rfl, by rw [HT.out, cellsF_append]; exact hown4, grown_below (hB1.alloc hB1.size _) (by have := hB1.size; simp; omega) (hO1.alloc _) hgrow4⟩
      case measure => simp [intOf]; omega
    · have hke : k = L.length := by omega
      subst hke
      go_wp2
      go_ret
      have ho := HO.out
      rw [List.take_length] at ho
      exact ⟨a, c, rfl, ho, HBE.out⟩
end Go.Proofs.Ytafhpcgdlmkbeay
