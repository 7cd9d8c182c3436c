import Derived.Test.YtafhpcgdlmkbeayEM2
import Derived.Test.YtafhpcgdlmkbeayEO
import Derived.Test.YtafhpcgdlmkbeayTL3
namespace Go.Proofs.Ytafhpcgdlmkbeay
open Go.RowKit
set_option linter.unusedVariables false

theorem own_aside1 {w w' : World} {base base' n n' : Nat} {e e' : TypeId} {v v' : Value} {xs ys : List Value} (h : w.ownsRow base e 3 v n xs) (h' : w.ownsRow base' e' 3 v' n' ys) (hlt : ∀ q, v.ownBlock = some q → q < base') (hg : w.grownBy w' v'.ownBlock) : w'.ownsRow base e 3 v n xs := by
  cases hv : v.ownBlock with
  | none => exact h.kept hg (.inl hv)
  | some q =>
    refine h.kept hg (.inr fun e1 => ?_)
    have h1 := hlt q hv
    have h2 := (h'.lt q (by rw [← e1]; exact hv)).1
    omega
theorem own_aside2 {w w' : World} {base base' n n' : Nat} {e e' : TypeId} {v v' : Value} {xs ys : List Value} (h : w.ownsRow base e 3 v n xs) (hlt : ∀ q, v'.ownBlock = some q → q < base) (hg : w.grownBy w' v'.ownBlock) : w'.ownsRow base e 3 v n xs := by
  cases hv : v.ownBlock with
  | none => exact h.kept hg (.inl hv)
  | some q =>
    refine h.kept hg (.inr fun e1 => ?_)
    have h1 := hlt q (by rw [← e1]; exact hv)
    have h2 := (h.lt q hv).1
    omega
theorem grown_pre {w w1 w2 : World} {row : Option Nat} (hb : Below w.heap.size w w1) (h : w1.grownBy w2 row) : w.grownBy w2 row :=
  ⟨h.os.trans hb.os, h.tape.trans hb.tape, h.output.trans hb.output, Nat.le_trans hb.size h.size, fun i hi hne => (h.block i (Nat.lt_of_lt_of_le hi hb.size) hne).trans (hb.block i hi)⟩
theorem row_aside {w w' : World} {L : Nat} {t : TypeId} {C : Array Value} {fr : Nat × Nat} {base n : Nat} {v : Value} {xs : List Value} (hL : w.heap[L]? = some (.cells C t fr)) (hte : t ≠ 37) (h : w.ownsRow base 37 3 v n xs) (hg : w.grownBy w' v.ownBlock) : w'.heap[L]? = some (.cells C t fr) :=
  (hg.block L (Array.getElem?_eq_some_iff.1 hL).1 (not_rowT hL hte h)).trans hL

set_option maxRecDepth 100000 in
set_option maxHeartbeats 1000000 in
theorem markTable_any (xs : List Value) (base n cap : Nat) (a : Option Addr) (m : Int) (w : World) (h : w.ownsRow base 37 3 (.slice a n cap) n xs) (hn : n ≤ 1048577) :
    Calls Try.prog 17 #[.agg #[.slice a n cap, .int .i64 m], .int .i64 1] w fun e w' => e = .returned (.int .i64 ((1 + 3 * n : Nat) : Int)) ∧ w'.ownsRow base 37 3 (.slice a n cap) n (cellsF (marks 1 n)) ∧ w.grownBy w' (Value.slice a n cap).ownBlock := by
  have hm := markFieldS_any xs base n cap 1 a _ (h.alloc (.cells #[.slice a n cap, .int .i64 m] 29)) hn (by decide) (by decide)
  have hb : Below w.heap.size w (w.alloc (.cells #[.slice a n cap, .int .i64 m] 29)) := (Below.refl _ _).alloc (Nat.le_refl _) _
  clear h
  go_enter Try.func17, Try.ntmps17
  go_wp2_with fail
  refine hm.mono ?_
  rintro e w1 ⟨rfl, ho, hg⟩
  go_wp2
  go_ret
  exact ⟨rfl, ho, grown_pre hb hg⟩

set_option maxRecDepth 100000 in
set_option maxHeartbeats 1000000 in
theorem heldTable_any (n cap : Nat) (a : Option Addr) (m : Int) (w : World) (h : Fs w a n cap (marks 1 n)) (hn : n ≤ 1048577) :
    Calls Try.prog 18 #[.agg #[.slice a n cap, .int .i64 m], .int .i64 1] w fun e w' => e = .returned (.int .i64 ((1 + 3 * n : Nat) : Int)) ∧ Below w.heap.size w w' := by
  have hb : Below w.heap.size w (w.alloc (.cells #[.slice a n cap, .int .i64 m] 29)) := (Below.refl _ _).alloc (Nat.le_refl _) _
  have hm := heldFieldS_any n cap 1 a _ (h.below hb) hn (by decide) (by decide)
  obtain ⟨K, hK⟩ : ∃ K : Nat, 1 + 3 * n = K := ⟨_, rfl⟩
  rw [hK] at hm ⊢
  have hd : decide ((K : Int) < 0) = false := by rw [decide_eq_false_iff_not]; omega
  have hd2 : ¬ (K : Int) < 0 := by omega
  clear h hK
  go_enter Try.func18, Try.ntmps18
  go_wp2_with fail
  refine hm.mono ?_
  rintro e w1 ⟨rfl, hb1⟩
  go_wp2
  go_ret
  exact ⟨rfl, bt' hb hb1⟩
end Go.Proofs.Ytafhpcgdlmkbeay
