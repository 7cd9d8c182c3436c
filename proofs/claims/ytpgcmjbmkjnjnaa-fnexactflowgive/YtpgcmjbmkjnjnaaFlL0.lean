import Derived.Test.YtpgcmjbmkjnjnaaFlS2
namespace Go.Proofs.Ytpgcmjbmkjnjnaa
open Go.RowKit
set_option linter.unusedVariables false

def eqFw (x y : Fw) : Bool := (x.s == y.s) && (x.r == y.r)
theorem eqFw_iff {x y : Fw} : eqFw x y = true ↔ x = y := by
  unfold eqFw
  rw [Bool.and_eq_true]
  cases x; cases y
  simp
theorem eqFw_self (x : Fw) : eqFw x x = true := eqFw_iff.2 rfl
theorem eqFw_no {x y : Fw} (h : x ≠ y) : eqFw x y = false := by
  cases e : eqFw x y with
  | false => rfl
  | true => exact absurd (eqFw_iff.1 e) h
set_option maxRecDepth 100000 in
theorem eqFw_run (x y : Fw) (w : World) : (Op.equalIn 10000 24 (.agg #[.int .i64 x.s, .int .i64 x.r]) (.agg #[.int .i64 y.s, .int .i64 y.r])).run Try.prog w = .ok (eqFw x y) w := by
  have hS : Try.prog.underlying 24 = some (.struct (Try.prog.fieldsOf 24)) := by kernel_rfl
  have hp : Try.prog.stoodInHeld 24 = false := by kernel_rfl
  rw [show (10000 : Nat) = 9999 + 1 from rfl, run_equalIn_agg w 9999 24 _ _ hS hp]
  simp only [Program.fieldsOf, Try.underlying24]
  unfold eqFw
  go_simp
  by_cases h1 : x.s = y.s <;> by_cases h2 : x.r = y.r <;> simp [h1, h2]
end Go.Proofs.Ytpgcmjbmkjnjnaa
