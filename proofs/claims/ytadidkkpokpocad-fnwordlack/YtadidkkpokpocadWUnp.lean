import Derived.Test.YtadidkkpokpocadWPack
namespace Go.Proofs.Ytadidkkpokpocad
open Go.RowKit
set_option linter.unusedVariables false

theorem ret_sb {a b : ByteArray} {c d : Bool} (h : a = b) (h' : c = d) : Ending.returned (.tuple #[.string a, .bool c]) = .returned (.tuple #[.string b, .bool d]) := by rw [h, h']
theorem val_int {a b : Int} (h : a = b) : Value.int .i64 a = .int .i64 b := by rw [h]

theorem own_cells {w : World} {base : Nat} {e : TypeId} {g T c : Nat} {bs : List Int} (hown : w.ownsRow base e 1 (.slice (some ⟨g, 0, none⟩) T c) T (bs.map (Value.int .i64))) (hbl : bs.length = T) (o m : Nat) (h : o + m ≤ T) :
    ((bs.drop o).take m).length = m ∧ ∀ i, i < ((bs.drop o).take m).length → w.cell? ⟨g, o + i, none⟩ = some (.int .i64 (((bs.drop o).take m).getD i 0)) := by
  have hln : ((bs.drop o).take m).length = m := by rw [List.length_take, List.length_drop, hbl]; omega
  refine ⟨hln, ?_⟩
  intro i hi
  rw [hln] at hi
  have hi2 : o + i < bs.length := by rw [hbl]; omega
  have := hown.cells (g := g) rfl (o + i) (.int .i64 bs[o + i]) (by simp [hi2])
  rw [Addr.add_lit, show (0 : Nat) + (o + i) = o + i by omega] at this
  rw [this]
  have e : ((bs.drop o).take m).getD i 0 = bs[o + i] := by
    simp [List.getD, hi, List.getElem?_drop, hi2]
  rw [e]
theorem numB_seven (l : List Int) (h : 7 ≤ l.length) (hb : ∀ b ∈ l, b = 0 ∨ b = 1) : 4 * numB (l.take 5) ≤ numB (l.take 7) ∧ numB (l.take 7) ≤ 127 := by
  match l, h with
  | a :: b :: c :: d :: e :: f :: g :: t, _ =>
    have ha := hb a (by simp)
    have hb' := hb b (by simp)
    have hc := hb c (by simp)
    have hd := hb d (by simp)
    have he := hb e (by simp)
    have hf := hb f (by simp)
    have hg := hb g (by simp)
    simp [numB]
    omega

theorem unp_step {bs outL : List Int} {o n : Nat} {k x : Int} (hun : unp bs = (outL ++ (unp (bs.drop o)).1, (unp (bs.drop o)).2)) (hst : stepU (bs.drop o) = some (k, n)) (hx : WS.getD k.toNat 0 = x) :
    unp bs = ((outL ++ [x]) ++ (unp (bs.drop (o + n))).1, (unp (bs.drop (o + n))).2) := by
  have h := unp_some hst
  rw [List.drop_drop, hx] at h
  have h1 : (unp (bs.drop o)).1 = x :: (unp (bs.drop (o + n))).1 := by rw [h]
  have h2 : (unp (bs.drop o)).2 = (unp (bs.drop (o + n))).2 := by rw [h]
  rw [hun, h1, h2, List.append_assoc]
  rfl
theorem unp_end {bs outL : List Int} {o : Nat} (hun : unp bs = (outL ++ (unp (bs.drop o)).1, (unp (bs.drop o)).2)) (hst : stepU (bs.drop o) = none) : unp bs = (outL, bs.drop o) := by
  rw [hun, unp_none hst]
  simp
theorem all_snoc {l : List Int} {k : Nat} {y : Int} (hk : k < l.length) (hy : l[k] = y) : (l.take (k + 1)).all (fun b => b == 1) = ((l.take k).all (fun b => b == 1) && (y == 1)) := by
  rw [List.take_succ_eq_append_getElem hk, List.all_append, hy]
  simp
theorem val_bool {a b : Bool} (h : a = b) : Value.bool a = .bool b := by rw [h]

end Go.Proofs.Ytadidkkpokpocad
