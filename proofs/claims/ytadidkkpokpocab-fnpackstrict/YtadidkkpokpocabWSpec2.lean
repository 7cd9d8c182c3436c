import Derived.Test.YtadidkkpokpocabWSpec
namespace Go.Proofs.Ytadidkkpokpocab
open Go.RowKit
set_option linter.unusedVariables false

/-- The word at the beginning of bytes, and how many bytes it has. -/
def rdWL : List Int → Option (List Int × Int)
  | [] => none
  | a :: t => if 16 < a % 128 then none else if (t.length : Int) < a % 128 then none
    else if 128 ≤ a then (unpL (t.take (a % 128).toNat)).map (fun o => (o, 1 + a % 128))
    else if wOk (t.take (a % 128).toNat) then some (t.take (a % 128).toNat, 1 + a % 128) else none
theorem rdWL_cons (a : Int) (t : List Int) : rdWL (a :: t) = if 16 < a % 128 then none else if (t.length : Int) < a % 128 then none
    else if 128 ≤ a then (unpL (t.take (a % 128).toNat)).map (fun o => (o, 1 + a % 128))
    else if wOk (t.take (a % 128).toNat) then some (t.take (a % 128).toNat, 1 + a % 128) else none := rfl
/-- What WordRead answers. -/
def rdWV (s : ByteArray) : ByteArray × Int × Bool := match rdWL (bytesL s) with
  | some (o, u) => (strOfNums o, u, true)
  | none => (⟨#[]⟩, 0, false)
theorem rd_big (a : Int) (t : List Int) (ht : ∀ x ∈ t, 0 ≤ x ∧ x ≤ 255) (h : ¬ a % 128 < 127) : (rd 128 (a :: t)).2.2 = false ∨ 16 < (rd 128 (a :: t)).1 := by
  match t, ht with
  | [], _ => rw [rd1, if_neg (by omega)]; exact .inl rfl
  | [b], ht =>
    have hb := ht b (by simp)
    rw [rd2, if_neg (by omega)]
    by_cases h1 : b < 128
    · rw [if_pos h1]; exact .inr (by show (16 : Int) < 128 - 1 + b; omega)
    · rw [if_neg h1]; exact .inl rfl
  | b :: c :: u, ht =>
    have hb := ht b (by simp)
    have hc := ht c (by simp)
    rw [rd3, if_neg (by omega)]
    by_cases h1 : b < 128
    · rw [if_pos h1]; exact .inr (by show (16 : Int) < 128 - 1 + b; omega)
    · rw [if_neg h1]
      by_cases h2 : 128 ≤ c ∨ c = 0 ∨ 9999 < 128 - 1 + (b - 128) + 128 * c
      · rw [if_pos h2]; exact .inl rfl
      · rw [if_neg h2]; exact .inr (by show (16 : Int) < 128 - 1 + (b - 128) + 128 * c; omega)
theorem ret_sib {a b : ByteArray} {m n : Int} {c d : Bool} (h : a = b) (h1 : m = n) (h' : c = d) : Ending.returned (.tuple #[.string a, .int .i64 m, .bool c]) = .returned (.tuple #[.string b, .int .i64 n, .bool d]) := by rw [h, h1, h']

end Go.Proofs.Ytadidkkpokpocab
