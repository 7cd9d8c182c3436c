import Derived.Test.YtafhpcgdlmkbeayEK2
import Derived.Deep.RegionHeld3
namespace Go.Proofs.Ytafhpcgdlmkbeay
open Go.RowKit
set_option linter.unusedVariables false

/-- The figures of a number. -/
def digsF : Nat → Nat → List Int
  | 0, _ => []
  | n + 1, k => if k = 0 then [] else digsF n (k / 10) ++ [48 + ((k % 10 : Nat) : Int)]
theorem digsF_irr (n m k : Nat) (hn : k ≤ n) (hm : k ≤ m) : digsF n k = digsF m k := by
  induction n generalizing m k with
  | zero =>
    obtain rfl : k = 0 := by omega
    cases m with
    | zero => rfl
    | succ m => rw [digsF, digsF, if_pos rfl]
  | succ n ih =>
    cases m with
    | zero =>
      obtain rfl : k = 0 := by omega
      rw [digsF, digsF, if_pos rfl]
    | succ m =>
      rw [digsF, digsF]
      by_cases h : k = 0
      · rw [if_pos h, if_pos h]
      · rw [if_neg h, if_neg h, ih m (k / 10) (by omega) (by omega)]
def digs (k : Nat) : List Int := digsF k k
theorem digs_zero : digs 0 = [] := rfl
theorem digs_pos (k : Nat) (h : k ≠ 0) : digs k = digs (k / 10) ++ [48 + ((k % 10 : Nat) : Int)] := by
  obtain ⟨j, rfl⟩ : ∃ j, k = j + 1 := ⟨k - 1, by omega⟩
  show digsF (j + 1) (j + 1) = digsF ((j + 1) / 10) ((j + 1) / 10) ++ _
  rw [digsF, if_neg h, digsF_irr j ((j + 1) / 10) ((j + 1) / 10) (by omega) (Nat.le_refl _)]
/-- What markText says. -/
def mkT (k : Nat) : ByteArray := ⟨#[109]⟩ ++ strOfNums (digs k)
theorem strOfNums_cons (x : Int) (l : List Int) : strOfNums [x] ++ strOfNums l = strOfNums (x :: l) := by
  apply ByteArray.ext
  simp [strOfNums]
theorem strOfNums_nil : strOfNums [] = ⟨#[]⟩ := rfl

set_option maxRecDepth 100000 in
set_option maxHeartbeats 2000000 in
theorem markText_any (k : Nat) (w : World) (h0 : 1 ≤ k) (h1 : k ≤ 1000000000) :
    Calls Try.prog 56 #[.int .i64 k] w fun e w' => e = .returned (.string (mkT k)) ∧ Below w.heap.size w w' := by
  have hcv := fun n w => convert_one (P := Try.prog) Try.underlying76 Try.underlying5 Try.underlying9 n w
  have hk0 : ¬ (k : Int) ≤ 0 := by omega
  have hkp : (0 : Int) < k := by omega
  go_enter Try.func56, Try.ntmps56
  go_wp2
  go_loopw [0, 3] (fun i s wr => ∃ (j : Nat) (t : List Int), t.length + j ≤ k ∧ i = .int .i64 j ∧ s = .string (strOfNums t) ∧ digs k = digs j ++ t ∧ Below w.heap.size w wr) (fun i _ _ => (intOf i).toNat)
  case atStart => exact ⟨k, [], by simp, rfl, rfl, by simp, Below.refl _ _⟩
  case round =>
    obtain ⟨j, t, hj, rfl, rfl, hdg, hbel⟩ := hrel
    have HDG : Hid (digs k = digs j ++ t) := hdg
    clear hdg
    have hst : (strOfNums t).size ≤ 1000000000 := by rw [strOfNums_size]; omega
    have hs1 : ∀ x, (strOfNums [x]).size = 1 := fun _ => rfl
    have hs2 : (⟨#[109]⟩ : ByteArray).size = 1 := rfl
    by_cases hp : 0 < j
    · have hp' : (0 : Int) < j := by omega
      obtain ⟨d, hd⟩ : ∃ d : Nat, (j : Int) % 10 = d := ⟨j % 10, (Int.natCast_emod j 10).symm⟩
      obtain ⟨q, hq⟩ : ∃ q : Nat, (j : Int) / 10 = q := ⟨j / 10, (Int.natCast_ediv j 10).symm⟩
      have hd9 : (d : Int) ≤ 9 := by omega
      have hd0 : (0 : Int) ≤ d := by omega
      have hqj : q < j := by omega
      have HD : Hid (digs k = digs q ++ ((48 + (d : Int)) :: t)) := by
        show digs k = _
        rw [HDG.out, digs_pos j (by omega), show j / 10 = q by omega, show ((j % 10 : Nat) : Int) = (d : Int) by omega, List.append_assoc]
        rfl
      go_wp2
      go_roundw
      case rel => exact ⟨q, (48 + (d : Int)) :: t, by rw [List.length_cons]; omega, rfl, by rw [strOfNums_cons], HD.out, hbel.alloc hbel.size _⟩
      case measure => simp [intOf]; omega
    · obtain rfl : j = 0 := by omega
      have HM : Hid (mkT k = ⟨#[109]⟩ ++ strOfNums t) := by show mkT k = _; unfold mkT; rw [HDG.out, digs_zero]; rfl
      go_wp2
      go_ret
      exact ⟨by rw [HM.out]; rfl, hbel⟩
end Go.Proofs.Ytafhpcgdlmkbeay
