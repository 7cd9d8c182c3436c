import Derived.Test.YtadidkkpokpocabWLaw0
import Derived.Test.YtadidkkpokpocabImpW
import Derived.Test.YtadidkkpokpocabWDraw2
import Derived.Deep.RegionHeld3
namespace Go.Proofs.Ytadidkkpokpocab
open Go.RowKit
set_option linter.unusedVariables false

set_option maxHeartbeats 1000000 in
theorem fnWordCut_walk (a0 : Option Addr) (len0 cap0 : Nat) (z0 : List Int) (a1 : Option Addr) (len1 cap1 : Nat) (z1 : List Int) (w : World) (w0 : Row w a0 len0 cap0 z0) (w1 : Row w a1 len1 cap1 z1) :
    Calls Try.prog 4 #[.slice a0 len0 cap0, .slice a1 len1 cap1] w fun e w' => e = .returned (.bool true) ∧ Below w.heap.size w w' := by
  by_cases c0 : (1048576 : Int) < len0
  · clear w0 w1
    go_enter Try.func4, Try.ntmps4
    go_wp2
    go_ret
    exact ⟨rfl, Below.refl _ _⟩
  by_cases c1 : (1048576 : Int) < len1
  · clear w0 w1
    go_enter Try.func4, Try.ntmps4
    go_wp2
    go_ret
    exact ⟨rfl, Below.refl _ _⟩
  have R0 : Hid (Row w a0 len0 cap0 z0) := w0
  have R1 : Hid (Row w a1 len1 cap1 z1) := w1
  clear w0 w1
  go_enter Try.func4, Try.ntmps4
  go_wp2_with fail
  refine (drawWordOk _ _ _ _ _ R0.out).mono ?_
  rintro e wa ⟨t, rfl, ht, hb⟩
  have HT : Hid (t.size ≤ maxLen) := show t.size ≤ maxLen by unfold maxLen; omega
  go_wp2_with fail
  refine (implOk _ _ HT.out).mono ?_
  obtain ⟨ok, hok⟩ : ∃ ok, wOk (bytesL t) = ok := ⟨_, rfl⟩
  have HK : Hid (wOk (bytesL t) = ok) := hok
  rw [hok]
  rintro e wb ⟨rfl, hb2⟩
  go_wp2_with fail
  refine (specWordOk _ _ HT.out).mono ?_
  rw [HK.out]
  rintro e wc ⟨rfl, rfl⟩
  have hB := bt hb hb2
  clear hb hb2
  cases ok with
  | false =>
    go_wp2_with fail
    refine (specWordOk _ _ HT.out).mono ?_
    rw [HK.out]
    rintro e wd ⟨rfl, rfl⟩
    go_wp2
    go_ret
    exact ⟨rfl, hB⟩
  | true =>
    obtain ⟨hS, hL⟩ := wOk_allS hok
    rw [bytesL_length] at hL
    have HS : Hid (allS (bytesL t)) := hS
    clear hok hS
    obtain ⟨k, hk⟩ : ∃ k : Nat, len1 % (t.size + 1) = k := ⟨_, rfl⟩
    have hkt : k ≤ t.size := by have := Nat.mod_lt len1 (show 0 < t.size + 1 by omega); omega
    have hki : (len1 : Int) % ((t.size : Int) + 1) = (k : Int) := by rw [← hk]; simp
    have hkt' : (k : Int) ≤ t.size := by omega
    have e1 : wOk (bytesL (t.extract 0 k)) = true := wOk_mk (fun c hc => HS.out c (by rw [bytesL_extract] at hc; exact List.mem_of_mem_take (List.mem_of_mem_drop hc))) (by rw [bytesL_length, ByteArray.size_extract]; omega)
    have e2 : wOk (bytesL (t.extract k t.size)) = true := wOk_mk (fun c hc => HS.out c (by rw [bytesL_extract] at hc; exact List.mem_of_mem_take (List.mem_of_mem_drop hc))) (by rw [bytesL_length, ByteArray.size_extract]; omega)
    have e3 : wOk (bytesL (t.extract 0 k ++ ⟨#[32]⟩ ++ t.extract k t.size)) = false := by
      cases h : wOk (bytesL (t.extract 0 k ++ ⟨#[32]⟩ ++ t.extract k t.size)) with
      | false => rfl
      | true =>
        have := (wOk_allS h).1 32 (by rw [bytesL_append, bytesL_append]; simp [bytesL])
        exact absurd this (by decide)
    have e4 : wOk (bytesL (t ++ ⟨#[65]⟩)) = false := by
      cases h : wOk (bytesL (t ++ ⟨#[65]⟩)) with
      | false => rfl
      | true =>
        have := (wOk_allS h).1 65 (by rw [bytesL_append]; simp [bytesL])
        exact absurd this (by decide)
    have z1 : (t.extract 0 k).size ≤ 16 := by rw [ByteArray.size_extract]; omega
    have z2 : (t.extract k t.size).size ≤ 16 := by rw [ByteArray.size_extract]; omega
    have z3 : (t.extract 0 k ++ ⟨#[32]⟩).size ≤ 17 := by rw [ByteArray.size_append]; have : (⟨#[32]⟩ : ByteArray).size = 1 := rfl; omega
    have H1 : Hid ((t.extract 0 k).size ≤ maxLen) := show (t.extract 0 k).size ≤ maxLen by unfold maxLen; omega
    have H2 : Hid ((t.extract k t.size).size ≤ maxLen) := show (t.extract k t.size).size ≤ maxLen by unfold maxLen; omega
    have H3 : Hid ((t.extract 0 k ++ ⟨#[32]⟩ ++ t.extract k t.size).size ≤ maxLen) := show (t.extract 0 k ++ ⟨#[32]⟩ ++ t.extract k t.size).size ≤ maxLen by rw [ByteArray.size_append]; unfold maxLen; omega
    have H4 : Hid ((t ++ ⟨#[65]⟩).size ≤ maxLen) := show (t ++ ⟨#[65]⟩).size ≤ maxLen by rw [ByteArray.size_append]; have : (⟨#[65]⟩ : ByteArray).size = 1 := rfl; unfold maxLen; omega
    have g1 : ∀ W : World, (Op.stringOp .add (t.extract 0 k) ⟨#[32]⟩).run Try.prog W = .ok (.string (t.extract 0 k ++ ⟨#[32]⟩)) W := fun W => run_string_add_sum W _ _ (by have : (⟨#[32]⟩ : ByteArray).size = 1 := rfl; omega)
    have g2 : ∀ W : World, (Op.stringOp .add (t.extract 0 k ++ ⟨#[32]⟩) (t.extract k t.size)).run Try.prog W = .ok (.string (t.extract 0 k ++ ⟨#[32]⟩ ++ t.extract k t.size)) W := fun W => run_string_add_sum W _ _ (by omega)
    have g3 : ∀ W : World, (Op.stringOp .add t ⟨#[65]⟩).run Try.prog W = .ok (.string (t ++ ⟨#[65]⟩)) W := fun W => run_string_add_sum W _ _ (by have : (⟨#[65]⟩ : ByteArray).size = 1 := rfl; omega)
    clear hk
    go_wp2
    clear z1 z2 z3
    go_region_held3 (fun w' => Below w.heap.size w w') (first | assumption | (apply Below.drew; assumption) | (apply bt <;> assumption)) ((go_at_call 14; refine (implOk _ _ ?_).mono ?_; (first | (with_reducible exact H1.out) | (with_reducible exact H2.out) | (with_reducible exact H3.out) | (with_reducible exact H4.out)); rintro e wN ⟨rfl, hbN⟩))
    all_goals
      go_wp2
      go_ret
      exact ⟨rfl, by assumption⟩
end Go.Proofs.Ytadidkkpokpocab
