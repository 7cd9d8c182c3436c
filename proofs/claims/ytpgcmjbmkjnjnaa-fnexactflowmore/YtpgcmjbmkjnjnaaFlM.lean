import Derived.Test.YtpgcmjbmkjnjnaaFS
namespace Go.Proofs.Ytpgcmjbmkjnjnaa
open Go.RowKit
set_option linter.unusedVariables false

/-- A flow. -/
structure Fw where
  s : Int
  r : Int
def Fw.val (f : Fw) : Value := .agg #[.int .i64 f.s, .int .i64 f.r]
def zFw : Fw := ⟨0, 0⟩
def flOk (f : Fw) : Bool := decide (0 ≤ f.s ∧ f.s ≤ 31) && decide (0 ≤ f.r ∧ f.r ≤ 31)
def flSend (f : Fw) (n : Int) : Fw × Bool := if flOk f = true ∧ 0 ≤ n ∧ n ≤ f.s then (⟨f.s - n, f.r⟩, true) else (zFw, false)
def flMore (f : Fw) (n : Int) : Fw × Bool := if flOk f = true ∧ 1 ≤ n ∧ n ≤ 31 - f.s then (⟨f.s + n, f.r⟩, true) else (zFw, false)
def flGot (f : Fw) (n : Int) : Fw × Bool := if flOk f = true ∧ 0 ≤ n ∧ n ≤ f.r then (⟨f.s, f.r - n⟩, true) else (zFw, false)
def flGive (f : Fw) (a : Int) : Fw × Int := if flOk f = true ∧ 0 ≤ a ∧ a ≤ 31 then (if f.r < a then (⟨f.s, a⟩, a - f.r) else (f, 0)) else (zFw, 0)
theorem flOk_iff {f : Fw} : flOk f = true ↔ (0 ≤ f.s ∧ f.s ≤ 31) ∧ (0 ≤ f.r ∧ f.r ≤ 31) := by unfold flOk; rw [Bool.and_eq_true, decide_eq_true_eq, decide_eq_true_eq]
theorem flOk_no {f : Fw} : flOk f = false ↔ ¬ ((0 ≤ f.s ∧ f.s ≤ 31) ∧ (0 ≤ f.r ∧ f.r ≤ 31)) := by rw [← flOk_iff]; simp
theorem flSend_yes {f : Fw} {n : Int} (h : flOk f = true) (h0 : 0 ≤ n) (h1 : n ≤ f.s) : flSend f n = (⟨f.s - n, f.r⟩, true) := if_pos ⟨h, h0, h1⟩
theorem flSend_no {f : Fw} {n : Int} (h : ¬ (flOk f = true ∧ 0 ≤ n ∧ n ≤ f.s)) : flSend f n = (zFw, false) := if_neg h
theorem flMore_yes {f : Fw} {n : Int} (h : flOk f = true) (h0 : 1 ≤ n) (h1 : n ≤ 31 - f.s) : flMore f n = (⟨f.s + n, f.r⟩, true) := if_pos ⟨h, h0, h1⟩
theorem flMore_no {f : Fw} {n : Int} (h : ¬ (flOk f = true ∧ 1 ≤ n ∧ n ≤ 31 - f.s)) : flMore f n = (zFw, false) := if_neg h
theorem flGot_yes {f : Fw} {n : Int} (h : flOk f = true) (h0 : 0 ≤ n) (h1 : n ≤ f.r) : flGot f n = (⟨f.s, f.r - n⟩, true) := if_pos ⟨h, h0, h1⟩
theorem flGot_no {f : Fw} {n : Int} (h : ¬ (flOk f = true ∧ 0 ≤ n ∧ n ≤ f.r)) : flGot f n = (zFw, false) := if_neg h
theorem flGive_no {f : Fw} {a : Int} (h : ¬ (flOk f = true ∧ 0 ≤ a ∧ a ≤ 31)) : flGive f a = (zFw, 0) := if_neg h
theorem flGive_less {f : Fw} {a : Int} (h : flOk f = true) (h0 : 0 ≤ a) (h1 : a ≤ 31) (h2 : f.r < a) : flGive f a = (⟨f.s, a⟩, a - f.r) := by unfold flGive; rw [if_pos ⟨h, h0, h1⟩, if_pos h2]
theorem flGive_same {f : Fw} {a : Int} (h : flOk f = true) (h0 : 0 ≤ a) (h1 : a ≤ 31) (h2 : ¬ f.r < a) : flGive f a = (f, 0) := by unfold flGive; rw [if_pos ⟨h, h0, h1⟩, if_neg h2]
end Go.Proofs.Ytpgcmjbmkjnjnaa
