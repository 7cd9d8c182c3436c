import Derived.Test.YtadidkkpokpocawProg
import Derived.Test.YtadidkkpokpocawWKit
namespace Go.Proofs.Ytadidkkpokpocaw
open Go.RowKit
set_option linter.unusedVariables false

theorem make5 (w : World) : (Instr.makeSlice 97 (.int .i64 5) (.int .i64 5)).run Try.prog w = .ok (.slice (some ⟨w.heap.size, 0, none⟩) 5 5) (w.alloc (.cells #[.int .i64 0, .int .i64 0, .int .i64 0, .int .i64 0, .int .i64 0] 3)) := by kernel_rfl
theorem make7 (w : World) : (Instr.makeSlice 97 (.int .i64 7) (.int .i64 7)).run Try.prog w = .ok (.slice (some ⟨w.heap.size, 0, none⟩) 7 7) (w.alloc (.cells #[.int .i64 0, .int .i64 0, .int .i64 0, .int .i64 0, .int .i64 0, .int .i64 0, .int .i64 0] 3)) := by kernel_rfl
theorem make8 (w : World) : (Instr.makeSlice 97 (.int .i64 8) (.int .i64 8)).run Try.prog w = .ok (.slice (some ⟨w.heap.size, 0, none⟩) 8 8) (w.alloc (.cells #[.int .i64 0, .int .i64 0, .int .i64 0, .int .i64 0, .int .i64 0, .int .i64 0, .int .i64 0, .int .i64 0] 3)) := by kernel_rfl

set_option maxRecDepth 100000 in
set_option maxHeartbeats 1000000 in
theorem l2Bits5 (n : Int) (w : World) (h0 : 0 ≤ n) (h1 : n ≤ 255) :
    Calls Try.prog 57 #[.int .i64 n, .int .i64 5] w fun e w' => e = .returned (.slice (some ⟨w.heap.size, 0, none⟩) 5 5) ∧ w' = w.alloc (.cells ((bitsL 5 n).map (Value.int .i64)).toArray 3) := by
  have hmk := make5
  go_enter Try.func57, Try.ntmps57
  go_wp2
  go_rounds 6
  go_ret
  exact ⟨rfl, rfl⟩

set_option maxRecDepth 100000 in
set_option maxHeartbeats 1000000 in
theorem l2Bits7 (n : Int) (w : World) (h0 : 0 ≤ n) (h1 : n ≤ 255) :
    Calls Try.prog 57 #[.int .i64 n, .int .i64 7] w fun e w' => e = .returned (.slice (some ⟨w.heap.size, 0, none⟩) 7 7) ∧ w' = w.alloc (.cells ((bitsL 7 n).map (Value.int .i64)).toArray 3) := by
  have hmk := make7
  go_enter Try.func57, Try.ntmps57
  go_wp2
  go_rounds 8
  go_ret
  exact ⟨rfl, rfl⟩

set_option maxRecDepth 100000 in
set_option maxHeartbeats 1000000 in
theorem l2Bits8 (n : Int) (w : World) (h0 : 0 ≤ n) (h1 : n ≤ 255) :
    Calls Try.prog 57 #[.int .i64 n, .int .i64 8] w fun e w' => e = .returned (.slice (some ⟨w.heap.size, 0, none⟩) 8 8) ∧ w' = w.alloc (.cells ((bitsL 8 n).map (Value.int .i64)).toArray 3) := by
  have hmk := make8
  go_enter Try.func57, Try.ntmps57
  go_wp2
  go_rounds 9
  go_ret
  exact ⟨rfl, rfl⟩

theorem pow2_le (k : Nat) (h : k ≤ 8) : (2 : Int) ^ k ≤ 256 := by
  rcases (by omega : k = 0 ∨ k = 1 ∨ k = 2 ∨ k = 3 ∨ k = 4 ∨ k = 5 ∨ k = 6 ∨ k = 7 ∨ k = 8) with rfl | rfl | rfl | rfl | rfl | rfl | rfl | rfl | rfl <;> decide

set_option maxRecDepth 100000 in
set_option maxHeartbeats 400000 in
theorem l2Num_any (g off cap L : Nat) (bs : List Int) (w : World) (hL : bs.length = L) (hl : L ≤ 8) (hb : ∀ b ∈ bs, b = 0 ∨ b = 1) (hc : ∀ i, i < bs.length → w.cell? ⟨g, off + i, none⟩ = some (.int .i64 (bs.getD i 0))) :
    Calls Try.prog 59 #[.slice (some ⟨g, off, none⟩) L cap] w fun e w' => e = .returned (.int .i64 (numB bs)) ∧ w' = w := by
  have HC : Hid (∀ i, i < bs.length → w.cell? ⟨g, off + i, none⟩ = some (.int .i64 (bs.getD i 0))) := hc
  have HB : Hid (∀ b ∈ bs, b = 0 ∨ b = 1) := hb
  clear hc hb
  have HL : Hid (bs.length = L) := hL
  clear hL
  go_enter Try.func59, Try.ntmps59
  go_wp2
  go_loop [3, 4] (fun n i => ∃ k : Nat, k ≤ L ∧ i = .int .i64 k ∧ n = .int .i64 (numB (bs.take k))) (fun _ i => L - (intOf i).toNat)
  case atStart => exact ⟨0, by omega, rfl, rfl⟩
  case round =>
    obtain ⟨k, hk, rfl, rfl⟩ := hrel
    have bd := numB_bd (bs.take k) (fun b hb => HB.out b (List.mem_of_mem_take hb))
    have hp := pow2_le (bs.take k).length (by rw [List.length_take]; omega)
    have b0 := bd.1
    have b1 : numB (bs.take k) ≤ 256 := by omega
    clear bd hp
    by_cases hlt : k < L
    · have hlt' : (k : Int) < L := by omega
      have hkb : k < bs.length := by rw [HL.out]; exact hlt
      obtain ⟨x, hx⟩ : ∃ x, bs.getD k 0 = x := ⟨_, rfl⟩
      have hcx := HC.out k hkb
      rw [hx] at hcx
      have hx' : bs[k] = x := by rw [← hx]; simp [List.getD, hkb]
      have hb := HB.out x (by rw [← hx']; exact List.getElem_mem hkb)
      have x0 : 0 ≤ x := by omega
      have x1 : x ≤ 1 := by omega
      have HX : Hid (numB (bs.take (k + 1)) = 2 * numB (bs.take k) + x) := by
        show numB (bs.take (k + 1)) = 2 * numB (bs.take k) + x
        rw [List.take_succ_eq_append_getElem hkb, numB_snoc, hx']
      clear hx hx' hb hkb
      go_wp2
      go_round
      case rel => exact ⟨k + 1, by omega, by go_num, by rw [HX.out]⟩
      case measure => simp [intOf]; omega
    · go_wp2
      go_ret
      exact ⟨ret_int (by rw [List.take_of_length_le (by rw [HL.out]; omega)]), rfl⟩
end Go.Proofs.Ytadidkkpokpocaw
