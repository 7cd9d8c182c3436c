import Derived.Test.YtghgcobnmmommaaDoorCE
import Derived.Laws.Rows
import Derived.Deep.WholeRow
import Derived.Deep.DeepCutAuto
import Derived.ChangeArms
import Derived.DataReads
import Derived.Deep.Slices
namespace Go.Proofs.YtghgcobnmmommaaDoor
open Go.RowKit
set_option linter.unusedVariables false

/-- A flow. -/
structure Fw where
  s : Int
  r : Int
def Fw.val (f : Fw) : Value := .agg #[.int .i64 f.s, .int .i64 f.r]
def zFw : Fw := ⟨0, 0⟩
def flOk (f : Fw) : Bool := decide (0 ≤ f.s ∧ f.s ≤ 31) && decide (0 ≤ f.r ∧ f.r ≤ 31)
def flSend (f : Fw) (n : Int) : Fw × Bool := if flOk f = true ∧ 0 ≤ n ∧ n ≤ f.s then (⟨f.s - n, f.r⟩, true) else (zFw, false)
def flMore (f : Fw) (n : Int) : Fw × Bool := if flOk f = true ∧ 1 ≤ n ∧ n ≤ 31 - f.s then (⟨f.s + n, f.r⟩, true) else (zFw, false)
def flGot (f : Fw) (n : Int) : Fw × Bool := if flOk f = true ∧ 0 ≤ n ∧ n ≤ f.r then (⟨f.s, f.r - n⟩, true) else (zFw, false)
def flGive (f : Fw) (a : Int) : Fw × Int := if flOk f = true ∧ 0 ≤ a ∧ a ≤ 31 then (if f.r < a then (⟨f.s, a⟩, a - f.r) else (f, 0)) else (zFw, 0)
theorem flOk_iff {f : Fw} : flOk f = true ↔ (0 ≤ f.s ∧ f.s ≤ 31) ∧ (0 ≤ f.r ∧ f.r ≤ 31) := by unfold flOk; rw [Bool.and_eq_true, decide_eq_true_eq, decide_eq_true_eq]
theorem flOk_no {f : Fw} : flOk f = false ↔ ¬ ((0 ≤ f.s ∧ f.s ≤ 31) ∧ (0 ≤ f.r ∧ f.r ≤ 31)) := by rw [← flOk_iff]; simp
theorem flSend_yes {f : Fw} {n : Int} (h : flOk f = true) (h0 : 0 ≤ n) (h1 : n ≤ f.s) : flSend f n = (⟨f.s - n, f.r⟩, true) := if_pos ⟨h, h0, h1⟩
theorem flSend_no {f : Fw} {n : Int} (h : ¬ (flOk f = true ∧ 0 ≤ n ∧ n ≤ f.s)) : flSend f n = (zFw, false) := if_neg h
theorem flMore_yes {f : Fw} {n : Int} (h : flOk f = true) (h0 : 1 ≤ n) (h1 : n ≤ 31 - f.s) : flMore f n = (⟨f.s + n, f.r⟩, true) := if_pos ⟨h, h0, h1⟩
theorem flMore_no {f : Fw} {n : Int} (h : ¬ (flOk f = true ∧ 1 ≤ n ∧ n ≤ 31 - f.s)) : flMore f n = (zFw, false) := if_neg h
theorem flGot_yes {f : Fw} {n : Int} (h : flOk f = true) (h0 : 0 ≤ n) (h1 : n ≤ f.r) : flGot f n = (⟨f.s, f.r - n⟩, true) := if_pos ⟨h, h0, h1⟩
theorem flGot_no {f : Fw} {n : Int} (h : ¬ (flOk f = true ∧ 0 ≤ n ∧ n ≤ f.r)) : flGot f n = (zFw, false) := if_neg h
theorem flGive_no {f : Fw} {a : Int} (h : ¬ (flOk f = true ∧ 0 ≤ a ∧ a ≤ 31)) : flGive f a = (zFw, 0) := if_neg h
theorem flGive_less {f : Fw} {a : Int} (h : flOk f = true) (h0 : 0 ≤ a) (h1 : a ≤ 31) (h2 : f.r < a) : flGive f a = (⟨f.s, a⟩, a - f.r) := by unfold flGive; rw [if_pos ⟨h, h0, h1⟩, if_pos h2]
theorem flGive_same {f : Fw} {a : Int} (h : flOk f = true) (h0 : 0 ≤ a) (h1 : a ≤ 31) (h2 : ¬ f.r < a) : flGive f a = (f, 0) := by unfold flGive; rw [if_pos ⟨h, h0, h1⟩, if_neg h2]
end Go.Proofs.YtghgcobnmmommaaDoor

namespace Go.Proofs.YtghgcobnmmommaaDoor
open Go.RowKit
set_option linter.unusedVariables false

theorem results_ctW {fn : Func} {p q : Tmp} {ty : TypeId} (h : fn.results = #[.cell p ty, .tmp q]) (tmps : Array Value) (w : World) (g : Nat) (cs : Array Value)
    (hp : tmps.getD p undef = .pointer (some ⟨g, 0, none⟩)) (hl : (loadVar ty ⟨g, 0, none⟩).run Tryd.prog w = .ok (.agg cs) w) :
    (results fn tmps).run Tryd.prog w = .ok (.tuple #[.agg cs, tmps.getD q undef]) w := by
  have hp' : tmps[p]?.getD undef = .pointer (some ⟨g, 0, none⟩) := by simpa using hp
  simp [results, h, hp', asAddr, hl]
theorem results_cW {fn : Func} {p : Tmp} {ty : TypeId} (h : fn.results = #[.cell p ty]) (tmps : Array Value) (w : World) (g : Nat) (cs : Array Value)
    (hp : tmps.getD p undef = .pointer (some ⟨g, 0, none⟩)) (hl : (loadVar ty ⟨g, 0, none⟩).run Tryd.prog w = .ok (.agg cs) w) :
    (results fn tmps).run Tryd.prog w = .ok (.agg cs) w := by
  have hp' : tmps[p]?.getD undef = .pointer (some ⟨g, 0, none⟩) := by simpa using hp
  simp [results, h, hp', asAddr, hl]
theorem row2w {W : World} {B : Nat} {a b : Value} {t : TypeId} (h : W.heap[B]? = some (.cells #[a, b] t (0, 0))) : W.cell? ⟨B, 0, none⟩ = some a ∧ W.cell? ⟨B, 1, none⟩ = some b ∧ W.frozen? ⟨B, 0, none⟩ = false ∧ W.frozen? ⟨B, 1, none⟩ = false := by
  refine ⟨?_, ?_, ?_, ?_⟩ <;> simp [World.cell?, World.frozen?, h]
theorem setc_heapW {W : World} {B : Nat} {cs : Array Value} {t : TypeId} (o : Nat) (v : Value) (h : W.heap[B]? = some (.cells cs t (0, 0))) : (W.setCell ⟨B, o, none⟩ v).heap[B]? = some (.cells (cs.setIfInBounds o v) t (0, 0)) := by
  obtain ⟨hlt, hk⟩ := Array.getElem?_eq_some_iff.1 h
  show (W.heap.modify B _)[B]? = _
  rw [Array.getElem?_eq_getElem (by rw [Array.size_modify]; exact hlt), Array.getElem_modify_self, hk]
  rfl
theorem setW0 {W : World} {B : Nat} {a b : Value} {t : TypeId} (y : Value) (h : W.heap[B]? = some (.cells #[a, b] t (0, 0))) : (W.setCell ⟨B, 0, none⟩ y).heap[B]? = some (.cells #[y, b] t (0, 0)) := by
  have := setc_heapW 0 y h
  simpa using this
theorem setW1 {W : World} {B : Nat} {a b : Value} {t : TypeId} (y : Value) (h : W.heap[B]? = some (.cells #[a, b] t (0, 0))) : (W.setCell ⟨B, 1, none⟩ y).heap[B]? = some (.cells #[a, y] t (0, 0)) := by
  have := setc_heapW 1 y h
  simpa using this
theorem set2W {W : World} {B : Nat} {a b : Value} {t : TypeId} (x y : Value) (h : W.heap[B]? = some (.cells #[a, b] t (0, 0))) : ((W.setCell ⟨B, 0, none⟩ x).setCell ⟨B, 1, none⟩ y).heap[B]? = some (.cells #[x, y] t (0, 0)) := setW1 y (setW0 x h)
theorem setWo {W : World} {B C o : Nat} {x : Obj} (y : Value) (h : W.heap[C]? = some x) (hne : C ≠ B) : (W.setCell ⟨B, o, none⟩ y).heap[C]? = some x := (Below.heap_setCell W ⟨B, o, none⟩ y C hne).trans h
theorem belW1 {n : Nat} {w W : World} {B o : Nat} (h : Below n w W) (hB : n ≤ B) (x : Value) : Below n w (W.setCell ⟨B, o, none⟩ x) := h.setCell (p := ⟨B, o, none⟩) hB _
theorem wabsW {p : Program} {c : Code} {Q : Exit → Act → World → Prop} {a : Act} {w : World} (P : World → Prop) (h : P w) (k : ∀ W, P W → Code.wp p c Q a W) : Code.wp p c Q a w := k w h

end Go.Proofs.YtghgcobnmmommaaDoor

namespace Go.Proofs.YtghgcobnmmommaaDoor
open Go.RowKit
set_option linter.unusedVariables false

end Go.Proofs.YtghgcobnmmommaaDoor

namespace Go.Proofs.YtghgcobnmmommaaDoor
open Go.RowKit
set_option linter.unusedVariables false

def eqFw (x y : Fw) : Bool := (x.s == y.s) && (x.r == y.r)
theorem eqFw_iff {x y : Fw} : eqFw x y = true ↔ x = y := by
  unfold eqFw
  rw [Bool.and_eq_true]
  cases x; cases y
  simp
theorem eqFw_self (x : Fw) : eqFw x x = true := eqFw_iff.2 rfl
theorem eqFw_no {x y : Fw} (h : x ≠ y) : eqFw x y = false := by
  cases e : eqFw x y with
  | false => rfl
  | true => exact absurd (eqFw_iff.1 e) h
end Go.Proofs.YtghgcobnmmommaaDoor

namespace Go.Proofs.YtghgcobnmmommaaDoor
open Go.RowKit
set_option linter.unusedVariables false

end Go.Proofs.YtghgcobnmmommaaDoor
