import Derived.Test.YtafhpcgdlmkbeaxTAt
namespace Go.Proofs.Ytafhpcgdlmkbeax
open Go.RowKit
set_option linter.unusedVariables false

/-- The first place, counted from 1 behind k, of a field with this name; 0 if there is none. -/
def nmP (n : ByteArray) : List Fd → Nat → Nat
  | [], _ => 0
  | x :: t, k => if x.n = n then k + 1 else nmP n t (k + 1)
/-- The first place of all of a field. -/
def flP (f : Fd) : List Fd → Nat → Nat
  | [], _ => 0
  | x :: t, k => if x.n = f.n ∧ x.v = f.v then k + 1 else flP f t (k + 1)
/-- What l3Find answers. -/
def findV (fs : List Fd) (f : Fd) : Nat × Bool := if flP f (fixedL ++ fs) 0 = 0 then (nmP f.n (fixedL ++ fs) 0, false) else (flP f (fixedL ++ fs) 0, true)
theorem nmP_le (n : ByteArray) (l : List Fd) (k : Nat) : nmP n l k ≤ k + l.length := by
  induction l generalizing k with
  | nil => simp [nmP]
  | cons x t ih => unfold nmP; have := ih (k + 1); split <;> simp only [List.length_cons] <;> omega
theorem nmP_at {n : ByteArray} {l : List Fd} {k : Nat} (h : k < l.length) : nmP n (l.drop k) k = if l[k].n = n then k + 1 else nmP n (l.drop (k + 1)) (k + 1) := by
  rw [List.drop_eq_getElem_cons h]; rfl
theorem flP_at {f : Fd} {l : List Fd} {k : Nat} (h : k < l.length) : flP f (l.drop k) k = if l[k].n = f.n ∧ l[k].v = f.v then k + 1 else flP f (l.drop (k + 1)) (k + 1) := by
  rw [List.drop_eq_getElem_cons h]; rfl
theorem keep_fld {w1 w2 : World} {B : Nat} {x y z : Value} (hb : Below w1.heap.size w1 w2) (h0 : w1.cell? ⟨B, 0, none⟩ = some x) (h1 : w1.cell? ⟨B, 1, none⟩ = some y) : w2.cell? ⟨B, 0, none⟩ = some x ∧ w2.cell? ⟨B, 1, none⟩ = some y := five_two (w := w1) hb h0 h1

/-- What TableFind answers. -/
def tabFind (fs : List Fd) (max : Int) (f : Fd) : Nat × Bool := if tOk fs max && fOk f then findV fs f else (0, false)
end Go.Proofs.Ytafhpcgdlmkbeax
