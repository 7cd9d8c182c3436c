import Derived.Test.YtpgcmjbmkjnjnaaFS2
import Derived.Laws.Rows
import Derived.Deep.WholeRow
namespace Go.Proofs.Ytpgcmjbmkjnjnaa
open Go.RowKit
set_option linter.unusedVariables false

theorem four_bytes {s : ByteArray} (h : 4 ≤ s.size) : ∃ x0 x1 x2 x3 r, bytesL s = x0 :: x1 :: x2 :: x3 :: r ∧ (r.length : Int) = s.size - 4 ∧ (∀ h, ((s[0]'h).toNat : Int) = x0) ∧ (∀ h, ((s[1]'h).toNat : Int) = x1) ∧ (∀ h, ((s[2]'h).toNat : Int) = x2) ∧ (∀ h, ((s[3]'h).toNat : Int) = x3) ∧ (0 ≤ x0 ∧ x0 ≤ 255) ∧ (0 ≤ x1 ∧ x1 ≤ 255) ∧ (0 ≤ x2 ∧ x2 ≤ 255) ∧ (0 ≤ x3 ∧ x3 ≤ 255) ∧ ∀ n, s.extract 4 (4 + n) = strOfNums (r.take n) := by
  have hl := bytesL_length s
  have hbd := bytesL_bd s
  match e : bytesL s, hl with
  | [], hl => simp at hl; omega
  | [_], hl => simp at hl; omega
  | [_, _], hl => simp at hl; omega
  | [_, _, _], hl => simp at hl; omega
  | x0 :: x1 :: x2 :: x3 :: r, hl =>
    rw [e] at hbd
    refine ⟨x0, x1, x2, x3, r, rfl, by simp at hl; omega, ?_, ?_, ?_, ?_, hbd _ (by simp), hbd _ (by simp), hbd _ (by simp), hbd _ (by simp), ?_⟩
    · intro h; rw [bytesL_at]; simp [e]
    · intro h; rw [bytesL_at]; simp [e]
    · intro h; rw [bytesL_at]; simp [e]
    · intro h; rw [bytesL_at]; simp [e]
    · intro n
      rw [← strOfNums_bytesL (s.extract 4 (4 + n)), bytesL_extract, e, Nat.add_comm 4 n]
      rfl
theorem frRd_short {s : ByteArray} (h : s.size < 4) : frRd s = (zFr, 0, 0) := by
  have hl := bytesL_length s
  unfold frRd
  match e : bytesL s, hl with
  | [], _ => rfl
  | [_], _ => rfl
  | [_, _], _ => rfl
  | [_, _, _], _ => rfl
  | _ :: _ :: _ :: _ :: _, hl => simp at hl; omega
theorem bcellF {W w1 : World} (hb : Below W.heap.size W w1) : (∀ b o, b < W.heap.size → w1.cell? ⟨b, o, none⟩ = W.cell? ⟨b, o, none⟩) ∧ (∀ b o, b < W.heap.size → w1.frozen? ⟨b, o, none⟩ = W.frozen? ⟨b, o, none⟩) :=
  ⟨fun b o h => hb.cell (p := ⟨b, o, none⟩) h, fun b o h => hb.frozen (p := ⟨b, o, none⟩) h⟩
theorem setc_heapF {W : World} {B : Nat} {cs : Array Value} {t : TypeId} (o : Nat) (v : Value) (h : W.heap[B]? = some (.cells cs t (0, 0))) : (W.setCell ⟨B, o, none⟩ v).heap[B]? = some (.cells (cs.setIfInBounds o v) t (0, 0)) := by
  obtain ⟨hlt, hk⟩ := Array.getElem?_eq_some_iff.1 h
  show (W.heap.modify B _)[B]? = _
  rw [Array.getElem?_eq_getElem (by rw [Array.size_modify]; exact hlt), Array.getElem_modify_self, hk]
  rfl
theorem set4_heap {W : World} {B : Nat} {a b c d : Value} {t : TypeId} (x y z u : Value) (h : W.heap[B]? = some (.cells #[a, b, c, d] t (0, 0))) : ((((W.setCell ⟨B, 0, none⟩ x).setCell ⟨B, 1, none⟩ y).setCell ⟨B, 2, none⟩ z).setCell ⟨B, 3, none⟩ u).heap[B]? = some (.cells #[x, y, z, u] t (0, 0)) := by
  have := setc_heapF 3 u (setc_heapF 2 z (setc_heapF 1 y (setc_heapF 0 x h)))
  simpa using this
theorem bel4 {n : Nat} {w W : World} {B : Nat} (h : Below n w W) (hB : n ≤ B) (x y z u : Value) : Below n w ((((W.setCell ⟨B, 0, none⟩ x).setCell ⟨B, 1, none⟩ y).setCell ⟨B, 2, none⟩ z).setCell ⟨B, 3, none⟩ u) :=
  (((h.setCell (p := ⟨B, 0, none⟩) hB _).setCell (p := ⟨B, 1, none⟩) hB _).setCell (p := ⟨B, 2, none⟩) hB _).setCell (p := ⟨B, 3, none⟩) hB _
theorem results_c2F {fn : Func} {p q r : Tmp} {ty : TypeId} (h : fn.results = #[.cell p ty, .tmp q, .tmp r]) (tmps : Array Value) (w : World) (g : Nat) (cs : Array Value)
    (hp : tmps.getD p undef = .pointer (some ⟨g, 0, none⟩)) (hl : (loadVar ty ⟨g, 0, none⟩).run Try.prog w = .ok (.agg cs) w) :
    (results fn tmps).run Try.prog w = .ok (.tuple #[.agg cs, tmps.getD q undef, tmps.getD r undef]) w := by
  have hp' : tmps[p]?.getD undef = .pointer (some ⟨g, 0, none⟩) := by simpa using hp
  simp [results, h, hp', asAddr, hl]
theorem blkTF {W : World} {B : Nat} {o : Obj} (h : W.heap[B]? = some o) (o' : Obj) : (W.alloc o').heap[B]? = some o := by
  have := (Array.getElem?_eq_some_iff.1 h).1
  show (W.heap.push o')[B]? = _
  rw [Array.getElem?_push, if_neg (by omega)]
  exact h
end Go.Proofs.Ytpgcmjbmkjnjnaa
