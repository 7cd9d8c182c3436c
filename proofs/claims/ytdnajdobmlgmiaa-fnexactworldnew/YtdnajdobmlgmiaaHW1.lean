import Derived.Test.YtdnajdobmlgmiaaBE
import Derived.Deep.RegionHeld3
import Derived.Deep.DeepCutAuto
namespace Go.Proofs.Ytdnajdobmlgmiaa
open Go.RowKit
set_option linter.unusedVariables false

structure TB (w : World) (B : Nat) (a : Option Addr) (n cap : Nat) (max : Int) (f : Fd) (fs : List Fd) (w' : World) : Prop where
  tab : w'.heap[B]? = some (.cells #[.slice a n cap, .int .i64 max] 24 (0, 0))
  fld : w'.heap[B + 1]? = some (.cells #[.string f.n, .string f.v, .bool f.q] 98 (0, 0))
  res : w'.heap[B + 1 + 1]? = some (.cells #[.slice none 0 0, .int .i64 0] 24 (0, 0))
  fs : Fs w' a n cap fs
  bel : Below w.heap.size w w'
theorem TB.below {w : World} {B : Nat} {a : Option Addr} {n cap : Nat} {max : Int} {f : Fd} {fs : List Fd} {w1 w2 : World} (h : TB w B a n cap max f fs w1) (hb : Below w1.heap.size w1 w2) : TB w B a n cap max f fs w2 :=
  ⟨(hb.block _ (Array.getElem?_eq_some_iff.1 h.tab).1).trans h.tab, (hb.block _ (Array.getElem?_eq_some_iff.1 h.fld).1).trans h.fld, (hb.block _ (Array.getElem?_eq_some_iff.1 h.res).1).trans h.res, h.fs.below hb, h.bel.trans (hb.mono h.bel.size)⟩
theorem TB.alloc {w : World} {B : Nat} {a : Option Addr} {n cap : Nat} {max : Int} {f : Fd} {fs : List Fd} {w1 : World} (h : TB w B a n cap max f fs w1) (o : Obj) : TB w B a n cap max f fs (w1.alloc o) :=
  h.below ((Below.refl _ _).alloc (Nat.le_refl _) _)
theorem TB.cells {w : World} {B : Nat} {a : Option Addr} {n cap : Nat} {max : Int} {f : Fd} {fs : List Fd} {w' : World} (h : TB w B a n cap max f fs w') : w'.cell? ⟨B, 0, none⟩ = some (.slice a n cap) ∧ w'.cell? ⟨B, 1, none⟩ = some (.int .i64 max) ∧ w'.cell? ⟨B + 1, 0, none⟩ = some (.string f.n) ∧ w'.cell? ⟨B + 1, 1, none⟩ = some (.string f.v) ∧ w'.cell? ⟨B + 1, 2, none⟩ = some (.bool f.q) ∧ w'.cell? ⟨B + 1 + 1, 0, none⟩ = some (.slice none 0 0) ∧ w'.cell? ⟨B + 1 + 1, 1, none⟩ = some (.int .i64 0) ∧ w'.frozen? ⟨B + 1 + 1, 0, none⟩ = false ∧ w'.frozen? ⟨B + 1 + 1, 1, none⟩ = false :=
  ⟨cell_of_row _ _ 0 _ _ _ h.tab, cell_of_row _ _ 1 _ _ _ h.tab, cell_of_row _ _ 0 _ _ _ h.fld, cell_of_row _ _ 1 _ _ _ h.fld, cell_of_row _ _ 2 _ _ _ h.fld, cell_of_row _ _ 0 _ _ _ h.res, cell_of_row _ _ 1 _ _ _ h.res, by simp [World.frozen?, h.res], by simp [World.frozen?, h.res]⟩
theorem TB.five {w : World} {B : Nat} {a : Option Addr} {n cap : Nat} {max : Int} {f : Fd} {fs : List Fd} {w' : World} (h : TB w B a n cap max f fs w') : w'.cell? ⟨B, 0, none⟩ = some (.slice a n cap) ∧ w'.cell? ⟨B, 1, none⟩ = some (.int .i64 max) ∧ w'.cell? ⟨B + 1, 0, none⟩ = some (.string f.n) ∧ w'.cell? ⟨B + 1, 1, none⟩ = some (.string f.v) ∧ w'.cell? ⟨B + 1, 2, none⟩ = some (.bool f.q) :=
  ⟨h.cells.1, h.cells.2.1, h.cells.2.2.1, h.cells.2.2.2.1, h.cells.2.2.2.2.1⟩
theorem TB.five_set {w : World} {B : Nat} {a : Option Addr} {n cap : Nat} {max : Int} {f : Fd} {fs : List Fd} {w' : World} (h : TB w B a n cap max f fs w') (x y : Value) : ((w'.setCell ⟨B + 1 + 1, 0, none⟩ x).setCell ⟨B + 1 + 1, 1, none⟩ y).cell? ⟨B, 0, none⟩ = some (.slice a n cap) ∧ ((w'.setCell ⟨B + 1 + 1, 0, none⟩ x).setCell ⟨B + 1 + 1, 1, none⟩ y).cell? ⟨B, 1, none⟩ = some (.int .i64 max) ∧ ((w'.setCell ⟨B + 1 + 1, 0, none⟩ x).setCell ⟨B + 1 + 1, 1, none⟩ y).cell? ⟨B + 1, 0, none⟩ = some (.string f.n) ∧ ((w'.setCell ⟨B + 1 + 1, 0, none⟩ x).setCell ⟨B + 1 + 1, 1, none⟩ y).cell? ⟨B + 1, 1, none⟩ = some (.string f.v) ∧ ((w'.setCell ⟨B + 1 + 1, 0, none⟩ x).setCell ⟨B + 1 + 1, 1, none⟩ y).cell? ⟨B + 1, 2, none⟩ = some (.bool f.q) := by
  have h5 := h.five
  have n0 : B ≠ B + 1 + 1 := by omega
  have n1 : B + 1 ≠ B + 1 + 1 := by omega
  refine ⟨?_, ?_, ?_, ?_, ?_⟩
  · rw [cell_set _ _ _ _ n0, cell_set _ _ _ _ n0]; exact h5.1
  · rw [cell_set _ _ _ _ n0, cell_set _ _ _ _ n0]; exact h5.2.1
  · rw [cell_set _ _ _ _ n1, cell_set _ _ _ _ n1]; exact h5.2.2.1
  · rw [cell_set _ _ _ _ n1, cell_set _ _ _ _ n1]; exact h5.2.2.2.1
  · rw [cell_set _ _ _ _ n1, cell_set _ _ _ _ n1]; exact h5.2.2.2.2

theorem load_tab {w : World} {g : Nat} {x y : Value} (hg : w.heap[g]? = some (.cells #[x, y] 24 (0, 0))) : (loadVar 24 ⟨g, 0, none⟩).run Try.prog w = .ok (.agg #[x, y]) w :=
  run_loadVar_row w g 24 24 #[x, y] (0, 0) _ hg Try.underlying24 rfl infoT2
theorem Fs.kept {w w' : World} {a : Option Addr} {n cap : Nat} {fs : List Fd} {row : Option Nat} (h : Fs w a n cap fs) (hg : w.grownBy w' row) (hne : ∀ g o, a = some ⟨g, o, none⟩ → 0 < n → some g ≠ row) : Fs w' a n cap fs := by
  refine ⟨h.len, h.le, h.cmax, ?_, h.some', h.form⟩
  intro g o e j u hu
  have hn : 0 < n := by
    have := List.getElem?_eq_some_iff.1 hu
    obtain ⟨hj, _⟩ := this
    rw [cellsF_length, h.len] at hj
    omega
  exact hg.cell (a := ⟨g, o + j, none⟩) (h.cells g o e j u hu) (hne g o e hn)
theorem Fs.off {w : World} {g o n cap B : Nat} {fs : List Fd} {p q : Value} {t : TypeId} (h : Fs w (some ⟨g, o, none⟩) n cap fs) (hn : 0 < n) (hB : w.heap[B]? = some (.cells #[p, q] t (0, 0))) : g ≠ B := by
  rintro rfl
  have hl : 0 < fs.length := by rw [h.len]; exact hn
  obtain ⟨c0, c1, c2⟩ := h.at 0 hl
  have e2 := cell_of_row w g (o + 0 * 3 + 2) _ _ _ hB
  rw [c2] at e2
  have : o + 0 * 3 + 2 < #[p, q].size := by
    have := Array.getElem?_eq_some_iff.1 e2.symm
    exact this.1
  have h2 : #[p, q].size = 2 := rfl
  omega
theorem Fs.set2 {w : World} {B : Nat} (x y : Value) {a : Option Addr} {n cap : Nat} {fs : List Fd} {p q : Value} {t : TypeId} (h : Fs w a n cap fs) (hB : w.heap[B]? = some (.cells #[p, q] t (0, 0))) (o1 o2 : Nat) : Fs ((w.setCell ⟨B, o1, none⟩ x).setCell ⟨B, o2, none⟩ y) a n cap fs := by
  refine ⟨h.len, h.le, h.cmax, ?_, h.some', h.form⟩
  intro g o e j u hu
  have hn : 0 < n := by
    obtain ⟨hj, _⟩ := List.getElem?_eq_some_iff.1 hu
    rw [cellsF_length, h.len] at hj
    omega
  subst e
  have hne : g ≠ B := h.off hn hB
  rw [cell_set _ _ _ _ hne, cell_set _ _ _ _ hne]
  exact h.cells g o rfl j u hu

end Go.Proofs.Ytdnajdobmlgmiaa
