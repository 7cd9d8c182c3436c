import Derived.Test.YtghgcobnmmommaaDoorEnA
import Derived.Test.YtghgcobnmmommaaDoorShelf
import Derived.Lib.LaidTab
namespace Go.Proofs.YtghgcobnmmommaaDoor
open Go.RowKit
set_option linter.unusedVariables false

theorem bel_grow (w : World) (k : Nat) (os : Array Obj) : Below w.heap.size w (Sort.grow (w.drewN k) os) :=
  ⟨rfl, rfl, rfl, by show w.heap.size ≤ (w.heap ++ os).size; rw [Array.size_append]; omega, fun i hi => by show (w.heap ++ os)[i]? = _; rw [Array.getElem?_append_left hi]⟩
theorem decF_digits : ∀ (k n : Nat), n ≤ k → (decF k n).map (fun x => UInt8.ofNat x.toNat) = Lib.decDigits n
  | 0, n, h => by
    obtain rfl : n = 0 := by omega
    rw [Lib.decDigits_one (by omega)]
    rfl
  | k + 1, n, h => by
    unfold decF
    by_cases h10 : n < 10
    · rw [if_pos h10, Lib.decDigits_one h10]
      show [UInt8.ofNat (48 + (n : Int)).toNat] = _
      rw [show (48 + (n : Int)).toNat = 48 + n by omega]
    · rw [if_neg h10, List.map_append, decF_digits k (n / 10) (by omega), Lib.decDigits.eq_def n, dif_neg h10]
      congr 1
theorem decB_digits (n : Nat) : decB n = ⟨(Lib.decDigits n).toArray⟩ := by
  unfold decB strOfNums
  rw [decF_digits n n (Nat.le_refl _)]
theorem itoa_small (n : Nat) (hn : n < 100) (w : World) : Calls Tryd.prog 16 #[.int .i64 (n : Int)] w fun e w' => e = .returned (.string (decB n)) ∧ Below w.heap.size w w' := by
  refine (Tryd.strconv_Itoa_small n hn w).mono ?_
  rintro e w' ⟨rfl, rfl⟩
  exact ⟨by rw [decB_digits], Below.refl _ _⟩
abbrev TabW (w : World) : Prop := Lib.TabIs Tryd.prog w "internal/strconv.uint64pow10" .u64 Lib.pow10Tab
theorem TabW.below {w w' : World} (h : TabW w) (hb : Below w.heap.size w w') : TabW w' := by
  unfold TabW Lib.TabIs World.var? at h ⊢
  cases hg : Tryd.prog.globalNamed "internal/strconv.uint64pow10" with
  | none => simp [hg] at h
  | some g =>
    simp only [hg, Option.bind_some] at h ⊢
    have hlt : g < w.heap.size := by
      rcases Nat.lt_or_ge g w.heap.size with h' | h'
      · exact h'
      · simp [Array.getElem?_eq_none h'] at h
    rw [hb.block g hlt]
    exact h
theorem itoa_all (n : Nat) (hn : n ≤ 9223372036854775807) (w : World) (ht : TabW w) : Calls Tryd.prog 16 #[.int .i64 (n : Int)] w fun e w' => e = .returned (.string (decB n)) ∧ Below w.heap.size w w' := by
  refine (Tryd.strconv_Itoa (n : Int) (by omega) (by omega) w ht).mono ?_
  rintro e w' ⟨rfl, k, os, rfl⟩
  refine ⟨?_, bel_grow _ _ _⟩
  rw [decB_digits]
  unfold Lib.itoa
  rw [if_neg (by omega), Int.toNat_natCast]
theorem implAnsSmall (path text : ByteArray) (w : World) (hm : text.size < 100) :
    Calls Tryd.prog 8 #[.string path, .string text] w fun e w' => e = .returned (.tuple #[.string (edAns path text).1, .string (edAns path text).2]) ∧ Below w.heap.size w w' :=
  implEndAnswer path text w (by omega) (fun W _ => itoa_small text.size hm W)
end Go.Proofs.YtghgcobnmmommaaDoor
