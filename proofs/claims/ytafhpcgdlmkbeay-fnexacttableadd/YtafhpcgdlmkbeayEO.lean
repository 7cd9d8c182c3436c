import Derived.Test.YtafhpcgdlmkbeayEK2
import Derived.ChangeArms
import Derived.DataReads
import Derived.Deep.Slices
namespace Go.Proofs.Ytafhpcgdlmkbeay
open Go.RowKit
set_option linter.unusedVariables false

theorem open_field {H : Type} {enc : TypeId × Value → H} {W : World} {base : Nat} {sp : Nat → Bool} {held : Bool} {fuel : Nat} {cs : List Value} {x : DataW H × List MemPlace} (h : DataW.trod enc Try.prog W base sp held fuel 34 cs = some x) :
    ∃ f : Fd, cs = [.string f.n, .string f.v, .bool f.q] ∧ f.n.size ≤ maxLen ∧ f.v.size ≤ maxLen := by
  obtain ⟨xs, n, _, _, hlen, hxl, hf⟩ := DataW.trod_struct Try.underlying34 h
  have hc3 : Try.prog.cellsOf 34 = 3 := by kernel_rfl
  have hcs : Try.prog.cellsOf 9 = 1 := by kernel_rfl
  have hcb : Try.prog.cellsOf 4 = 1 := by kernel_rfl
  rw [hc3] at hlen
  match cs, hlen, xs, hxl with
  | [a, b, c], _, [y0, y1, y2], _ =>
    have h0 := hf 0 _ rfl
    have h1 := hf 1 _ rfl
    have h2 := hf 2 _ rfl
    simp [hcs, hcb] at h0 h1 h2
    obtain ⟨s0, e0, _, g0⟩ := DataW.trod_string Try.underlying9 h0
    obtain ⟨s1, e1, _, g1⟩ := DataW.trod_string Try.underlying9 h1
    obtain ⟨b2, e2, _⟩ := DataW.trod_bool Try.underlying4 h2
    simp at e0 e1 e2
    subst e0 e1 e2
    exact ⟨⟨s0, s1, b2⟩, rfl, g0, g1⟩
theorem rows_of {W : World} {g o len : Nat} (h : ∀ i, i < len → ∃ f : Fd, (W.cell? ⟨g, o + i * 3, none⟩ = some (.string f.n) ∧ W.cell? ⟨g, o + i * 3 + 1, none⟩ = some (.string f.v) ∧ W.cell? ⟨g, o + i * 3 + 2, none⟩ = some (.bool f.q)) ∧ f.n.size ≤ maxLen ∧ f.v.size ≤ maxLen) (k : Nat) (hk : k ≤ len) :
    ∃ fs : List Fd, fs.length = k ∧ (∀ j u, (cellsF fs)[j]? = some u → W.cell? ⟨g, o + j, none⟩ = some u) ∧ ∀ f ∈ fs, f.n.size ≤ maxLen ∧ f.v.size ≤ maxLen := by
  induction k with
  | zero => exact ⟨[], rfl, (fun j u hu => by cases hu), (fun f hf => by cases hf)⟩
  | succ k ih =>
    obtain ⟨fs, h1, h2, h3⟩ := ih (by omega)
    obtain ⟨f, ⟨c0, c1, c2⟩, g0, g1⟩ := h k (by omega)
    refine ⟨fs ++ [f], by simp [h1], ?_, ?_⟩
    · intro j u hu
      rw [cellsF_append] at hu
      by_cases hj : j < (cellsF fs).length
      · rw [List.getElem?_append_left hj] at hu
        exact h2 j u hu
      · rw [List.getElem?_append_right (by omega), cellsF_length, h1] at hu
        rw [cellsF_length, h1] at hj
        obtain ⟨r, rfl⟩ : ∃ r, j = k * 3 + r := ⟨j - k * 3, by omega⟩
        rw [show k * 3 + r - k * 3 = r by omega] at hu
        match r, hu with
        | 0, hu => simp [cellsF] at hu; subst hu; rw [show o + (k * 3 + 0) = o + k * 3 by omega]; exact c0
        | 1, hu => simp [cellsF] at hu; subst hu; rw [show o + (k * 3 + 1) = o + k * 3 + 1 by omega]; exact c1
        | 2, hu => simp [cellsF] at hu; subst hu; rw [show o + (k * 3 + 2) = o + k * 3 + 2 by omega]; exact c2
        | r + 3, hu => simp [cellsF] at hu
    · intro x hx
      rcases List.mem_append.1 hx with hx | hx
      · exact h3 x hx
      · simp at hx
        subst hx
        exact ⟨g0, g1⟩
theorem open_fields {H : Type} {enc : TypeId × Value → H} {W : World} {base : Nat} {sp : Nat → Bool} {held : Bool} {fuel : Nat} {cs : List Value} {x : DataW H × List MemPlace} (h : DataW.trod enc Try.prog W base sp held fuel 22 cs = some x) :
    ∃ a n cap, cs = [.slice a n cap] ∧ ∃ fs, FsA W a n cap fs := by
  rcases Deep.open_slice Try.underlying22 h with ⟨rfl, _⟩ | ⟨a, len, cap, m, n, D, Pl, rfl, hb, hl, hm, hmm, _, hx⟩
  · exact ⟨none, 0, 0, rfl, [], rfl, by decide, (fun h => absurd h (by decide)), (fun f hf => by cases hf)⟩
  · have hc3 : Try.prog.cellsOf 34 = 3 := by kernel_rfl
    have hlm : len ≤ m := by rw [hmm]; split <;> omega
    refine ⟨some a, len, cap, rfl, ?_⟩
    by_cases h0 : len = 0
    · subst h0
      exact ⟨[], rfl, by decide, (fun h => absurd h (by decide)), (fun f hf => by cases hf)⟩
    · have hcell : ∀ i, i < len → ∃ f : Fd, (W.cell? (a.add (i * 3)) = some (.string f.n) ∧ W.cell? (a.add (i * 3 + 1)) = some (.string f.v) ∧ W.cell? (a.add (i * 3 + 2)) = some (.bool f.q)) ∧ f.n.size ≤ maxLen ∧ f.v.size ≤ maxLen := by
        intro i hi
        obtain ⟨cs', g1, g2⟩ := hx i (by omega)
        rw [hc3] at g1
        obtain ⟨_, hlen, hce⟩ := World.cells?_some g1
        obtain ⟨f, rfl, s1, s2⟩ := open_field g2
        have e0 := hce 0 (by omega)
        have e1 := hce 1 (by omega)
        have e2 := hce 2 (by omega)
        rw [Deep.add_add] at e0 e1 e2
        exact ⟨f, ⟨by simpa using e0, by simpa using e1, by simpa using e2⟩, s1, s2⟩
      have hsp : a.spot = none := by
        obtain ⟨f, ⟨c0, _, _⟩, _⟩ := hcell 0 (by omega)
        simpa [Addr.add] using World.cell?_spot c0
      obtain ⟨g, o, q⟩ := a
      simp only at hsp
      subst hsp
      obtain ⟨fs, f1, f2, f3⟩ := rows_of (W := W) (g := g) (o := o) (len := len) (by
        intro i hi
        obtain ⟨f, ⟨c0, c1, c2⟩, hs⟩ := hcell i hi
        rw [Addr.add_lit] at c0 c1 c2
        exact ⟨f, ⟨c0, by rwa [show o + (i * 3 + 1) = o + i * 3 + 1 by omega] at c1, by rwa [show o + (i * 3 + 2) = o + i * 3 + 2 by omega] at c2⟩, hs⟩) len (Nat.le_refl _)
      exact ⟨fs, f1, by omega, fun _ => ⟨g, o, rfl, f2⟩, f3⟩
theorem open_table {H : Type} {enc : TypeId × Value → H} {W : World} {base : Nat} {sp : Nat → Bool} {held : Bool} {fuel : Nat} {cs : List Value} {x : DataW H × List MemPlace} (h : DataW.trod enc Try.prog W base sp held fuel 24 cs = some x) :
    ∃ a n cap max, cs = [.slice a n cap, .int .i64 max] ∧ ∃ fs, FsA W a n cap fs := by
  obtain ⟨xs, n, _, _, hlen, hxl, hf⟩ := DataW.trod_struct Try.underlying24 h
  have hc2 : Try.prog.cellsOf 24 = 2 := by kernel_rfl
  have hcs : Try.prog.cellsOf 22 = 1 := by kernel_rfl
  have hci : Try.prog.cellsOf 3 = 1 := by kernel_rfl
  rw [hc2] at hlen
  match cs, hlen, xs, hxl with
  | [a, b], _, [y0, y1], _ =>
    have h0 := hf 0 _ rfl
    have h1 := hf 1 _ rfl
    simp [hcs, hci] at h0 h1
    obtain ⟨a', n', cap', e0, fs, hA⟩ := open_fields h0
    obtain ⟨m', e1, _⟩ := DataW.trod_int Try.underlying3 h1
    simp at e0 e1
    subst e0 e1
    exact ⟨a', n', cap', m', rfl, fs, hA⟩
end Go.Proofs.Ytafhpcgdlmkbeay
