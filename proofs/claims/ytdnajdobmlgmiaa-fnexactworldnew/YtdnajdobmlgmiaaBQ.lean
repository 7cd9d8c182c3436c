import Derived.Test.YtdnajdobmlgmiaaHW1
namespace Go.Proofs.Ytdnajdobmlgmiaa
open Go.RowKit
set_option linter.unusedVariables false

theorem blkH {w w' : World} {B : Nat} {o : Obj} (hb : Below w.heap.size w w') (h : w.heap[B]? = some o) : w'.heap[B]? = some o := (hb.block _ (Array.getElem?_eq_some_iff.1 h).1).trans h
theorem take_oneF (h : List Fd) (k : Nat) (hk : k < h.length) : h.take (k + 1) = h.take k ++ [h[k]] := List.take_succ_eq_append_getElem hk
theorem wrH_step (fs : List Fd) (max : Int) (h : List Fd) (k : Nat) (hk : k < h.length) : wrH fs max (h.take (k + 1)) = ((wrF (wrH fs max (h.take k)).1 max h[k]).1, (wrH fs max (h.take k)).2 ++ (wrF (wrH fs max (h.take k)).1 max h[k]).2) := by
  rw [take_oneF h k hk, wrH_append]
  simp only [wrH, append_none]
/-- A table that can be read, and bytes: what writing answers. -/
def HwAns (w : World) (r : (List Fd × Int) × ByteArray) (e : Ending) (w' : World) : Prop := ∃ a n c, e = .returned (.tuple #[.agg #[.slice a n c, .int .i64 r.1.2], .string r.2]) ∧ Fs w' a n c r.1.1 ∧ Below w.heap.size w w'
end Go.Proofs.Ytdnajdobmlgmiaa

namespace Go.Proofs.Ytdnajdobmlgmiaa
open Go.RowKit
set_option linter.unusedVariables false

theorem Fs_nil (w : World) : Fs w none 0 0 [] := ⟨rfl, Nat.le_refl _, by unfold maxLen; omega, (by intro g o e; cases e), (by intro h; omega), .inl ⟨rfl, rfl, rfl⟩⟩
end Go.Proofs.Ytdnajdobmlgmiaa
