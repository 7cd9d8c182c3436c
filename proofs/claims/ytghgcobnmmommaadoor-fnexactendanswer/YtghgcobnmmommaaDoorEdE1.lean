import Derived.Test.YtghgcobnmmommaaDoorCB
import Derived.Test.YtghgcobnmmommaaDoorCA
import Derived.Test.YtghgcobnmmommaaDoorBB
import Derived.Deep.RegionHeld3
import Derived.Maps.RangeWalk
namespace Go.Proofs.YtghgcobnmmommaaDoor
open Go.RowKit
set_option linter.unusedVariables false

/-- An end of which all sizes can be told. -/
structure EdBd (e : Ed) : Prop where
  sts : ∀ s ∈ e.sts, SmBd s
  n : e.sts.length ≤ 1048576
  out : fsBd e.out
  outn : e.out.length ≤ 1048576
  inn : fsBd e.inn
  innn : e.inn.length ≤ 1048576
  came : e.came.size ≤ maxLen
  wait : ∀ f ∈ e.wait, f.b.size ≤ maxLen
  m : e.wait.length ≤ 1048576
def pid (l : List Sm) (k : Nat) : Int := match k with | 0 => 0 | j + 1 => match l[j]? with | none => 0 | some s => s.id
theorem smsOk_at (ans : Bool) (l : List Sm) (k : Nat) (s : Sm) (h : l[k]? = some s) : smsOk ans (pid l k) k (l.drop k) = (smOk s && ((decide (k = 0) || decide (pid l k < s.id)) && ((ans || decide (s.id = 2 * (k : Int) + 1)) && smsOk ans (pid l (k + 1)) (k + 1) (l.drop (k + 1))))) := by
  obtain ⟨hlt, e⟩ := List.getElem?_eq_some_iff.1 h
  rw [List.drop_eq_getElem_cons hlt, e]
  show (smOk s && ((decide (k = 0) || decide (pid l k < s.id)) && ((ans || decide (s.id = 2 * (k : Int) + 1)) && smsOk ans s.id (k + 1) (l.drop (k + 1))))) = _
  have : pid l (k + 1) = s.id := by show (match l[k]? with | none => 0 | some s => s.id) = s.id; rw [h]
  rw [this]
theorem rangeAt_below {w w' : World} {b o : Nat} {cs : List Value} (h : w.rangeAt b o cs) (hb : Below w.heap.size w w') : w'.rangeAt b o cs := fun j v hv => by
  have hc := h j v hv
  rw [hb.cell (p := ⟨b, o + j, none⟩) (World.block_lt_of_cell? w _ hc)]
  exact hc
theorem Rw.range {w : World} {g o n cap size : Nat} {xs ys : List Value} (h : Rw w (some ⟨g, o, none⟩) n cap size xs) {k : Nat} (hy : ∀ j, j < ys.length → xs[k + j]? = ys[j]?) : w.rangeAt g (o + k) ys := by
  intro j v hv
  have hj := (List.getElem?_eq_some_iff.1 hv).1
  have := h.cells g o rfl (k + j) v (by rw [hy j hj]; exact hv)
  rwa [← Nat.add_assoc] at this
def frC (f : Fr) : List Value := [.int .i64 f.k, .bool f.l, .int .i64 f.s, .string f.b]
theorem cellsFr_range (l : List Fr) (k : Nat) (f : Fr) (h : l[k]? = some f) : ∀ j, j < (frC f).length → (cellsFr l)[k * 4 + j]? = (frC f)[j]? := by
  obtain ⟨hlt, e⟩ := List.getElem?_eq_some_iff.1 h
  obtain ⟨c0, c1, c2, c3⟩ := cellsFr_at l k hlt
  rw [e] at c0 c1 c2 c3
  intro j hj
  have hj4 : j < 4 := hj
  match j, hj4 with
  | 0, _ => exact c0
  | 1, _ => exact c1
  | 2, _ => exact c2
  | 3, _ => exact c3
end Go.Proofs.YtghgcobnmmommaaDoor
