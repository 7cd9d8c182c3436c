import Derived.Test.YtafhpcgdlmkbeadProg
import Derived.Test.YtafhpcgdlmkbeadKit
namespace Go.Proofs.Ytafhpcgdlmkbead
open Go.RowKit
set_option linter.unusedVariables false

set_option maxRecDepth 100000 in
set_option maxHeartbeats 400000 in
theorem l1Byte_any (n : Int) (w : World) (h0 : 0 ≤ n) (h1 : n ≤ 255) :
    Calls Try.prog 54 #[.int .i64 n] w fun e w' => e = .returned (.string (strOfNums [n])) ∧ Below w.heap.size w w' := by
  have hcv := fun n w => convert_one (P := Try.prog) Try.underlying22 Try.underlying5 Try.underlying9 n w
  go_enter Try.func54, Try.ntmps54
  go_wp2
  go_ret
  exact ⟨rfl, by go_grown⟩

set_option maxRecDepth 100000 in
set_option maxHeartbeats 400000 in
theorem l1Top_any (bits : Int) (w : World) (h0 : 0 ≤ bits) (h1 : bits ≤ 8) :
    Calls Try.prog 82 #[.int .i64 bits] w fun e w' => e = .returned (.int .i64 (pw bits)) ∧ w' = w := by
  go_enter Try.func82, Try.ntmps82
  go_wp2
  go_loop [3, 4] (fun n i => ∃ k : Nat, (k : Int) ≤ bits ∧ i = .int .i64 k ∧ n = .int .i64 (pw k)) (fun _ i => bits.toNat - (intOf i).toNat)
  case atStart => exact ⟨0, by omega, rfl, rfl⟩
  case round =>
    obtain ⟨k, hk, rfl, rfl⟩ := hrel
    have hp1 := pw_pos k
    have hp2 := pw_le k (by omega)
    by_cases hlt : (k : Int) < bits
    · go_wp2
      go_round
      case rel => exact ⟨k + 1, by omega, by go_num, by rw [show ((k + 1 : Nat) : Int) = (k : Int) + 1 from by omega, pw_succ]⟩
      case measure => simp [intOf]; omega
    · have hkb : Hid (bits = (k : Int)) := by exact (by omega : bits = (k : Int))
      go_wp2
      go_ret
      exact ⟨ret_int (by rw [hkb.out]), rfl⟩
end Go.Proofs.Ytafhpcgdlmkbead
