import Derived.Test.YtdnajdobmlgmiaaBQ
import Derived.Test.YtdnajdobmlgmiaaBA
import Derived.Test.YtdnajdobmlgmiaaBC
namespace Go.Proofs.Ytdnajdobmlgmiaa
open Go.RowKit
set_option linter.unusedVariables false

def restS (s : ByteArray) (u : Int) : ByteArray := s.extract u.toNat s.size
theorem bytesL_rest (s : ByteArray) (u : Int) : bytesL (restS s u) = (bytesL s).drop u.toNat := by
  unfold restS
  rw [bytesL_extract, List.take_of_length_le (by rw [bytesL_length]; exact Nat.le_refl _)]
theorem rest_size (s : ByteArray) (u : Int) : (restS s u).size ≤ s.size := by
  rw [← bytesL_length, bytesL_rest, List.length_drop, bytesL_length]; omega
theorem slice_rest (s : ByteArray) (u : Int) (h0 : 0 ≤ u) (h1 : u ≤ s.size) (W : World) : (Instr.slice 9 (.string s) (some (.int .i64 u)) none none).run Try.prog W = .ok (.string (restS s u)) W := by
  have h := run_slice_string_from_if (P := Try.prog) W 9 s .i64 u Try.underlying9
  rw [h, if_pos ⟨h0, h1⟩]
  rfl
def zFd : Fd := ⟨⟨#[]⟩, ⟨#[]⟩, false⟩
/-- What the model reads of a place, or a name, and a value. -/
def litV (fs : List Fd) (s : ByteArray) (bits : Int) : Fd × Int × Bool :=
  if (rdV s bits).2.2 = false then (zFd, 0, false)
  else if (rdV s bits).1 = 0 then
    if (rdWV (restS s (rdV s bits).2.1)).2.2 = false ∨ (rdWV (restS s (rdV s bits).2.1)).1.size = 0 then (zFd, 0, false)
    else (⟨(rdWV (restS s (rdV s bits).2.1)).1, (rdWV (restS s ((rdV s bits).2.1 + (rdWV (restS s (rdV s bits).2.1)).2.1))).1, false⟩, (rdV s bits).2.1 + (rdWV (restS s (rdV s bits).2.1)).2.1 + (rdWV (restS s ((rdV s bits).2.1 + (rdWV (restS s (rdV s bits).2.1)).2.1))).2.1, (rdWV (restS s ((rdV s bits).2.1 + (rdWV (restS s (rdV s bits).2.1)).2.1))).2.2)
  else if (atV fs (rdV s bits).1).2 = false then (zFd, 0, false)
  else (⟨(atV fs (rdV s bits).1).1.n, (rdWV (restS s (rdV s bits).2.1)).1, false⟩, (rdV s bits).2.1 + (rdWV (restS s (rdV s bits).2.1)).2.1, (rdWV (restS s (rdV s bits).2.1)).2.2)
theorem results_cell_tmp2 {fn : Func} {p q r : Tmp} {ty : TypeId} (h : fn.results = #[.cell p ty, .tmp q, .tmp r]) (tmps : Array Value) (w : World) (g : Nat) (cs : Array Value)
    (hp : tmps.getD p undef = .pointer (some ⟨g, 0, none⟩)) (hl : (loadVar ty ⟨g, 0, none⟩).run Try.prog w = .ok (.agg cs) w) :
    (results fn tmps).run Try.prog w = .ok (.tuple #[.agg cs, tmps.getD q undef, tmps.getD r undef]) w := by
  have hp' : tmps[p]?.getD undef = .pointer (some ⟨g, 0, none⟩) := by simpa using hp
  simp [results, h, hp', asAddr, hl]
theorem setc_heap {W : World} {B : Nat} {cs : Array Value} {t : TypeId} (o : Nat) (v : Value) (h : W.heap[B]? = some (.cells cs t (0, 0))) : (W.setCell ⟨B, o, none⟩ v).heap[B]? = some (.cells (cs.setIfInBounds o v) t (0, 0)) := by
  obtain ⟨hlt, hk⟩ := Array.getElem?_eq_some_iff.1 h
  show (W.heap.modify B _)[B]? = _
  rw [Array.getElem?_eq_getElem (by rw [Array.size_modify]; exact hlt), Array.getElem_modify_self, hk]
  rfl
theorem set3_heap {W : World} {B : Nat} {a b c : Value} {t : TypeId} (x y z : Value) (h : W.heap[B]? = some (.cells #[a, b, c] t (0, 0))) : (((W.setCell ⟨B, 0, none⟩ x).setCell ⟨B, 1, none⟩ y).setCell ⟨B, 2, none⟩ z).heap[B]? = some (.cells #[x, y, z] t (0, 0)) := setc_heap 2 z (setc_heap 1 y (setc_heap 0 x h))
theorem bel3 {n : Nat} {w W : World} {B : Nat} (h : Below n w W) (hB : n ≤ B) (x y z : Value) : Below n w (((W.setCell ⟨B, 0, none⟩ x).setCell ⟨B, 1, none⟩ y).setCell ⟨B, 2, none⟩ z) :=
  ((h.setCell (p := ⟨B, 0, none⟩) hB x).setCell (p := ⟨B, 1, none⟩) hB y).setCell (p := ⟨B, 2, none⟩) hB z
theorem isEmpty_true {s : ByteArray} (h : s.size = 0) : s.toList.isEmpty = true := by rw [size_zero h]; decide +kernel
theorem setc_other {W : World} {B C : Nat} {x : Obj} (o : Nat) (v : Value) (h : W.heap[C]? = some x) (hne : C ≠ B) : (W.setCell ⟨B, o, none⟩ v).heap[C]? = some x := by
  rw [Below.heap_setCell _ _ _ _ (by show C ≠ B; exact hne)]; exact h
end Go.Proofs.Ytdnajdobmlgmiaa
