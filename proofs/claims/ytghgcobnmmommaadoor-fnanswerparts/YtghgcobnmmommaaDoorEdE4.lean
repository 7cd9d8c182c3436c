import Derived.Test.YtghgcobnmmommaaDoorEdE3
namespace Go.Proofs.YtghgcobnmmommaaDoor
open Go.RowKit
set_option linter.unusedVariables false

abbrev nilS : Value := .slice none 0 0
theorem Fs_none (w : World) : Fs w none 0 0 [] := ⟨rfl, Nat.le_refl _, by unfold maxLen; omega, (by intro g o e; cases e), (by intro h; omega), .inl ⟨rfl, rfl, rfl⟩⟩
theorem edV_one {w : World} {e : Ed} {o i s q : Value} (h : EdV w e o i s q) : o.oneCell' = true ∧ i.oneCell' = true ∧ s.oneCell' = true ∧ q.oneCell' = true := by
  obtain ⟨a1, n1, c1, e1, _⟩ := h.out
  obtain ⟨a2, n2, c2, e2, _⟩ := h.inn
  obtain ⟨xs, ⟨a3, c3, e3, _⟩, _⟩ := h.sts
  obtain ⟨a4, c4, e4, _⟩ := h.wait
  subst e1; subst e2; subst e3; subst e4
  exact ⟨rfl, rfl, rfl, rfl⟩

end Go.Proofs.YtghgcobnmmommaaDoor
