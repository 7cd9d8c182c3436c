import Derived.Test.YtpgcmjbmkjnjnaaFS3
import Derived.Test.YtpgcmjbmkjnjnaaPick
namespace Go.Proofs.Ytpgcmjbmkjnjnaa
open Go.RowKit
set_option linter.unusedVariables false

theorem cellF {W : World} {B : Nat} {cs : Array Value} {t : TypeId} (o : Nat) (v : Value) (h : W.heap[B]? = some (.cells cs t (0, 0))) (hv : cs[o]? = some v) : W.cell? ⟨B, o, none⟩ = some v := by
  simp [World.cell?, h, hv]
theorem row4c {W : World} {B : Nat} {a b c d : Value} {t : TypeId} (h : W.heap[B]? = some (.cells #[a, b, c, d] t (0, 0))) : W.cell? ⟨B, 0, none⟩ = some a ∧ W.cell? ⟨B, 1, none⟩ = some b ∧ W.cell? ⟨B, 2, none⟩ = some c ∧ W.cell? ⟨B, 3, none⟩ = some d :=
  ⟨cellF 0 _ h rfl, cellF 1 _ h rfl, cellF 2 _ h rfl, cellF 3 _ h rfl⟩
theorem blkF {w w' : World} {B : Nat} {o : Obj} (hb : Below w.heap.size w w') (h : w.heap[B]? = some o) : w'.heap[B]? = some o := (hb.block _ (Array.getElem?_eq_some_iff.1 h).1).trans h
theorem wabsF {p : Program} {c : Code} {Q : Exit → Act → World → Prop} {a : Act} {w : World} (P : World → Prop) (h : P w) (k : ∀ W, P W → Code.wp p c Q a W) : Code.wp p c Q a w := k w h
def eqFr (x y : Fr) : Bool := (x.k == y.k) && ((x.l == y.l) && ((x.s == y.s) && (x.b.toList == y.b.toList)))
theorem eqBF {a b : ByteArray} : (a.toList == b.toList) = true ↔ a = b := by
  constructor
  · intro h
    have e : a.toList = b.toList := eq_of_beq h
    rw [ByteArray.toList_eq, ByteArray.toList_eq] at e
    exact ByteArray.ext (Array.toList_inj.1 e)
  · rintro rfl; exact beq_self_eq_true _
theorem eqFr_iff {x y : Fr} : eqFr x y = true ↔ x = y := by
  unfold eqFr
  rw [Bool.and_eq_true, Bool.and_eq_true, Bool.and_eq_true, eqBF]
  cases x; cases y
  simp
theorem eqFr_self (x : Fr) : eqFr x x = true := eqFr_iff.2 rfl
theorem eqFr_no {x y : Fr} (h : x ≠ y) : eqFr x y = false := by
  cases e : eqFr x y with
  | false => rfl
  | true => exact absurd (eqFr_iff.1 e) h
theorem ext_right (S T : ByteArray) : (S ++ T).extract S.size (S.size + T.size) = T := by
  rw [← strOfNums_bytesL ((S ++ T).extract S.size (S.size + T.size)), bytesL_extract, bytesL_append, ← bytesL_length S, ← bytesL_length T, ← List.length_append, List.take_length, List.drop_left, strOfNums_bytesL]
end Go.Proofs.Ytpgcmjbmkjnjnaa
