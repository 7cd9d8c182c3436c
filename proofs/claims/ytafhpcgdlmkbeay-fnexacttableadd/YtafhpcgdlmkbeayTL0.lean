import Derived.Test.YtafhpcgdlmkbeayTSpec
namespace Go.Proofs.Ytafhpcgdlmkbeay
open Go.RowKit
set_option linter.unusedVariables false

theorem keepc {w1 w2 : World} {p : Addr} {v : Value} (hb : Below w1.heap.size w1 w2) (h : w1.cell? p = some v) : w2.cell? p = some v := (hb.cell (World.block_lt_of_cell? w1 _ h)).trans h
theorem bt' {w a b : World} (h1 : Below w.heap.size w a) (h2 : Below a.heap.size a b) : Below w.heap.size w b := h1.trans (h2.mono h1.size)
theorem wabs {p : Program} {c : Code} {Q : Exit → Act → World → Prop} {a : Act} {w : World} (P : World → Prop) (h : P w) (k : ∀ W, P W → Code.wp p c Q a W) : Code.wp p c Q a w := k w h
theorem wabsE {K : Act → World → Prop} {Q : Exit → Act → World → Prop} {a : Act} {w : World} (P : World → Prop) (h : P w) (k : ∀ W, P W → Exit.then K Q Exit.normal a W) : Exit.then K Q Exit.normal a w := k w h
theorem row3c {W : World} {B : Nat} {a b c : Value} {t : TypeId} (h : W.heap[B]? = some (.cells #[a, b, c] t (0, 0))) : W.cell? ⟨B, 0, none⟩ = some a ∧ W.cell? ⟨B, 1, none⟩ = some b ∧ W.cell? ⟨B, 2, none⟩ = some c := ⟨cell_of_row _ _ 0 _ _ _ h, cell_of_row _ _ 1 _ _ _ h, cell_of_row _ _ 2 _ _ _ h⟩
theorem row2c {W : World} {B : Nat} {a b : Value} {t : TypeId} (h : W.heap[B]? = some (.cells #[a, b] t (0, 0))) : W.cell? ⟨B, 0, none⟩ = some a ∧ W.cell? ⟨B, 1, none⟩ = some b := ⟨cell_of_row _ _ 0 _ _ _ h, cell_of_row _ _ 1 _ _ _ h⟩
/-- Whether fields are the same. -/
def eqF (x y : Fd) : Bool := (x.n.toList == y.n.toList) && ((x.v.toList == y.v.toList) && (x.q == y.q))
def eqFs : List Fd → List Fd → Bool
  | [], [] => true
  | x :: s, y :: t => eqF x y && eqFs s t
  | _, _ => false
theorem eqB_iff {a b : ByteArray} : (a.toList == b.toList) = true ↔ a = b := by
  constructor
  · intro h
    by_cases e : a = b
    · exact e
    · rw [neF e] at h; cases h
  · exact eqT
theorem eqF_iff {x y : Fd} : eqF x y = true ↔ x = y := by
  unfold eqF
  rw [Bool.and_eq_true, Bool.and_eq_true, eqB_iff, eqB_iff]
  cases x; cases y
  simp
theorem eqFs_iff {s t : List Fd} : eqFs s t = true ↔ s = t := by
  induction s generalizing t with
  | nil => cases t <;> simp [eqFs]
  | cons x s ih =>
    cases t with
    | nil => simp [eqFs]
    | cons y t => simp only [eqFs, Bool.and_eq_true, eqF_iff, ih, List.cons.injEq]
theorem eqFs_self (s : List Fd) : eqFs s s = true := eqFs_iff.2 rfl
theorem eqFs_len {s t : List Fd} (h : s.length ≠ t.length) : eqFs s t = false := by
  cases e : eqFs s t with
  | false => rfl
  | true => rw [eqFs_iff.1 e] at h; exact absurd rfl h
theorem eqFs_at {s t : List Fd} {k : Nat} (h : k < s.length) (h' : k < t.length) : eqFs (s.drop k) (t.drop k) = (eqF s[k] t[k] && eqFs (s.drop (k + 1)) (t.drop (k + 1))) := by
  rw [List.drop_eq_getElem_cons h, List.drop_eq_getElem_cons h']; rfl

theorem eqFld (x y : Fd) (w : World) : (Op.equalIn 10000 37 (.agg #[.string x.n, .string x.v, .bool x.q]) (.agg #[.string y.n, .string y.v, .bool y.q])).run Try.prog w = .ok (eqF x y) w := by
  have hS : Try.prog.underlying 37 = some (.struct (Try.prog.fieldsOf 37)) := by kernel_rfl
  have hp : Try.prog.stoodInHeld 37 = false := by kernel_rfl
  rw [show (10000 : Nat) = 9999 + 1 from rfl, run_equalIn_agg w 9999 37 _ _ hS hp]
  simp only [Program.fieldsOf, Try.underlying37]
  unfold eqF
  go_simp
  by_cases h1 : x.n.toList = y.n.toList <;> by_cases h2 : x.v.toList = y.v.toList <;> by_cases h3 : x.q = y.q <;> simp [h1, h2, h3]

end Go.Proofs.Ytafhpcgdlmkbeay
