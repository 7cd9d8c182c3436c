import Derived.Test.YtghgcobnmmommaaDoorBE
import Derived.Deep.RegionHeld3
import Derived.Deep.DeepCutAuto
namespace Go.Proofs.YtghgcobnmmommaaDoor
open Go.RowKit
set_option linter.unusedVariables false

theorem Fs.kept {w w' : World} {a : Option Addr} {n cap : Nat} {fs : List Fd} {row : Option Nat} (h : Fs w a n cap fs) (hg : w.grownBy w' row) (hne : ∀ g o, a = some ⟨g, o, none⟩ → 0 < n → some g ≠ row) : Fs w' a n cap fs := by
  refine ⟨h.len, h.le, h.cmax, ?_, h.some', h.form⟩
  intro g o e j u hu
  have hn : 0 < n := by
    have := List.getElem?_eq_some_iff.1 hu
    obtain ⟨hj, _⟩ := this
    rw [cellsF_length, h.len] at hj
    omega
  exact hg.cell (a := ⟨g, o + j, none⟩) (h.cells g o e j u hu) (hne g o e hn)
theorem Fs.off {w : World} {g o n cap B : Nat} {fs : List Fd} {p q : Value} {t : TypeId} (h : Fs w (some ⟨g, o, none⟩) n cap fs) (hn : 0 < n) (hB : w.heap[B]? = some (.cells #[p, q] t (0, 0))) : g ≠ B := by
  rintro rfl
  have hl : 0 < fs.length := by rw [h.len]; exact hn
  obtain ⟨c0, c1, c2⟩ := h.at 0 hl
  have e2 := cell_of_row w g (o + 0 * 3 + 2) _ _ _ hB
  rw [c2] at e2
  have : o + 0 * 3 + 2 < #[p, q].size := by
    have := Array.getElem?_eq_some_iff.1 e2.symm
    exact this.1
  have h2 : #[p, q].size = 2 := rfl
  omega
theorem Fs.set2 {w : World} {B : Nat} (x y : Value) {a : Option Addr} {n cap : Nat} {fs : List Fd} {p q : Value} {t : TypeId} (h : Fs w a n cap fs) (hB : w.heap[B]? = some (.cells #[p, q] t (0, 0))) (o1 o2 : Nat) : Fs ((w.setCell ⟨B, o1, none⟩ x).setCell ⟨B, o2, none⟩ y) a n cap fs := by
  refine ⟨h.len, h.le, h.cmax, ?_, h.some', h.form⟩
  intro g o e j u hu
  have hn : 0 < n := by
    obtain ⟨hj, _⟩ := List.getElem?_eq_some_iff.1 hu
    rw [cellsF_length, h.len] at hj
    omega
  subst e
  have hne : g ≠ B := h.off hn hB
  rw [cell_set _ _ _ _ hne, cell_set _ _ _ _ hne]
  exact h.cells g o rfl j u hu

end Go.Proofs.YtghgcobnmmommaaDoor
