import Derived.Test.YtafhpcgdlmkbeaxEM2
import Derived.Test.YtafhpcgdlmkbeaxTI5
import Derived.Test.YtafhpcgdlmkbeaxEO
namespace Go.Proofs.Ytafhpcgdlmkbeax
open Go.RowKit
set_option linter.unusedVariables false

theorem own_aside {w w' : World} {base base' n n' : Nat} {e e' : TypeId} {v v' : Value} {xs ys : List Value} (h : w.ownsRow base e 3 v n xs) (h' : w.ownsRow base' e' 3 v' n' ys) (hlt : ∀ q, v.ownBlock = some q → q < base') (hg : w.grownBy w' v'.ownBlock) : w'.ownsRow base e 3 v n xs := by
  cases hv : v.ownBlock with
  | none => exact h.kept hg (.inl hv)
  | some q =>
    refine h.kept hg (.inr fun e1 => ?_)
    have h1 := hlt q hv
    have h2 := (h'.lt q (by rw [← e1]; exact hv)).1
    omega

set_option maxRecDepth 100000 in
set_option maxHeartbeats 4000000 in
theorem fnExactTableFixed_walk (w : World) :
    Calls Try.prog 6 #[] w fun e w' => e = .returned (.bool true) ∧ Below w.heap.size w w' := by
  have heq := fun (w' : World) (a a' : Option Addr) (c c' : Nat) (h : Fs w' a 6 c fixedL) (h' : Fs w' a' 6 c' fixedL) => eqFieldS_any fixedL fixedL a a' 6 c 6 c' w' h h' (by decide) (by decide)
  rw [eqFs_self] at heq
  have heq2 := heq
  have hhe := fun (w' : World) (a : Option Addr) (c : Nat) (h : Fs w' a 6 c (marks 1 6)) => heldFieldS_any 6 c 1 a w' h (by decide) (by decide) (by decide)
  have hhe2 := hhe
  have hma := fun (w' : World) (base : Nat) (a : Option Addr) (c : Nat) (h : w'.ownsRow base 30 3 (.slice a 6 c) 6 (cellsF fixedL)) => markFieldS_any (cellsF fixedL) base 6 c 1 a w' h (by decide) (by decide) (by decide)
  go_enter Try.func6, Try.ntmps6
  go_wp2_with fail
  refine (specTableFixed _).mono ?_
  rintro e w1 ⟨aA, cA, rfl, oA1, hb1⟩
  go_wp2_with fail
  refine (implTableFixed _).mono ?_
  rintro e w2 ⟨aG, cG, rfl, oG2, hb2⟩
  have oA2 := own_belowT oA1 hb2
  have hB2 := bt' hb1 hb2
  have hltA : ∀ q, (Value.slice aA 6 cA).ownBlock = some q → q < w1.heap.size := fun q e => (oA1.lt q e).2
  go_wp2_with fail
  refine (heq _ _ _ _ _ (own_Fs oG2) (own_Fs oA2)).mono ?_
  clear heq
  rintro e w3 ⟨rfl, hb3⟩
  have oA3 := own_belowT oA2 hb3
  have oG3 := own_belowT oG2 hb3
  have hB3 := bt' hB2 hb3
  go_wp2_with fail
  refine (hma _ _ _ _ oG3).mono ?_
  clear hma
  rintro e w4 ⟨rfl, oG4, hg4⟩
  have oA4 := own_aside oA3 oG3 hltA hg4
  have hB4 : Below w.heap.size w w4 := hB3.grown hg4 hB3.size (fun q hq => Nat.le_trans hb1.size (oG3.lt q hq).1)
  go_wp2_with fail
  refine (hhe _ _ _ (own_Fs oG4)).mono ?_
  clear hhe
  rintro e w5 ⟨rfl, hb5⟩
  have oA5 := own_belowT oA4 hb5
  have oG5 := own_belowT oG4 hb5
  have hB5 := bt' hB4 hb5
  go_wp2_with fail
  refine (implTableFixed _).mono ?_
  rintro e w6 ⟨aH, cH, rfl, oH6, hb6⟩
  have oA6 := own_belowT oA5 hb6
  have oG6 := own_belowT oG5 hb6
  have hB6 := bt' hB5 hb6
  go_wp2_with fail
  refine (heq2 _ _ _ _ _ (own_Fs oH6) (own_Fs oA6)).mono ?_
  rintro e w7 ⟨rfl, hb7⟩
  have oG7 := own_belowT oG6 hb7
  have hB7 := bt' hB6 hb7
  go_wp2_with fail
  refine (hhe2 _ _ _ (own_Fs oG7)).mono ?_
  rintro e w8 ⟨rfl, hb8⟩
  go_wp2
  go_ret
  exact ⟨rfl, bt' hB7 hb8⟩
end Go.Proofs.Ytafhpcgdlmkbeax
