import Derived.Test.YtadidkkpokpocacWDraw
import Derived.Test.YtadidkkpokpocacWSpec
namespace Go.Proofs.Ytadidkkpokpocac
open Go.RowKit
set_option linter.unusedVariables false

theorem str_cells (w : World) (e : TypeId) (xs : List ByteArray) (B : Nat) (h : ∀ x ∈ xs, x.size ≤ B) : ∀ i, i < xs.length → ∃ t : ByteArray, t.size ≤ B ∧ (w.alloc (.cells (xs.map Value.string).toArray e)).cell? ⟨w.heap.size, i, none⟩ = some (.string t) := by
  intro i hi
  exact ⟨xs[i], h _ (List.getElem_mem hi), by simp [hi]⟩

set_option maxHeartbeats 400000 in
theorem drawWordRead (a : Option Addr) (len cap : Nat) (zs : List Int) (w : World) (hr : Row w a len cap zs) :
    Calls Try.prog 14 #[.slice a len cap] w fun e w' => ∃ t : ByteArray, e = .returned (.string t) ∧ t.size ≤ 30 ∧ Below w.heap.size w w' := by
  have HR : Hid (Row w a len cap zs) := hr
  clear hr
  go_enter Try.func14, Try.ntmps14
  go_wp2_with fail
  refine (open_st _ _ _ _ _ HR.out).mono ?_
  rintro e w1 ⟨rfl, s1⟩
  go_wp2_with fail
  refine (l71Word_any _ _ _ _ s1 (by decide)).mono ?_
  rintro e w2 ⟨t, rfl, ht, s2⟩
  clear s1
  go_wp2_with fail
  refine (specWrite _ _ (by unfold maxLen; omega)).mono ?_
  obtain ⟨p, hp⟩ : ∃ p, wrV t = p := ⟨_, rfl⟩
  have hps := wrV_size t
  rw [hp] at hps ⊢
  clear hp
  rintro e w3 ⟨rfl, hb3⟩
  have s3 := s2.grow hb3
  clear s2 hb3
  go_wp2_with fail
  refine (pick_st _ _ _ _ _ s3 (by decide) (by decide)).mono ?_
  rintro e w4 ⟨k, rfl, k0, k1, s4, _⟩
  clear s3
  have hs1 : ∀ x, (strOfNums [x]).size = 1 := fun _ => rfl
  by_cases e0 : (k == 0) = true
  · go_wp2_with fail
    refine (pick_st _ _ _ _ _ s4 (by decide) (by decide)).mono ?_
    rintro e w5 ⟨v, rfl, v0, v1, s5, _⟩
    go_wp2_with fail
    refine (l1Byte_any _ _ (by omega) (by omega)).mono ?_
    rintro e w6 ⟨rfl, hb6⟩
    go_wp2
    go_ret
    exact ⟨_, rfl, by rw [ByteArray.size_append, hs1]; omega, (s5.grow hb6).bel⟩
  · have e0' : (k == 0) = false := by simpa using e0
    clear e0
    by_cases e1 : (k == 1) = true
    · go_wp2_with fail
      refine (pick_st _ _ _ _ _ s4 (by decide) (by omega)).mono ?_
      rintro e w5 ⟨v, rfl, v0, v1, s5, _⟩
      have v2 : v ≤ (p.size : Int) := by omega
      go_wp2
      go_ret
      exact ⟨_, rfl, by rw [ByteArray.size_extract]; omega, s5.bel⟩
    · have e1' : (k == 1) = false := by simpa using e1
      clear e1
      by_cases e2 : (k == 2) = true
      · go_wp2_with fail
        refine (pick_st _ _ _ _ _ s4 (by decide) (by decide)).mono ?_
        rintro e w5 ⟨v, rfl, v0, v1, s5, _⟩
        go_wp2_with fail
        refine (l1Byte_any _ _ (by omega) (by omega)).mono ?_
        rintro e w6 ⟨rfl, hb6⟩
        go_wp2
        go_ret
        exact ⟨_, rfl, by rw [ByteArray.size_append, hs1]; omega, (s5.grow hb6).bel⟩
      · have e2' : (k == 2) = false := by simpa using e2
        clear e2
        by_cases e3 : (k == 3) = true
        · go_wp2_with fail
          refine (l1Byte_any _ _ (by omega) (by omega)).mono ?_
          rintro e w6 ⟨rfl, hb6⟩
          go_wp2
          go_ret
          exact ⟨_, rfl, by rw [ByteArray.size_append, hs1]; omega, (s4.grow hb6).bel⟩
        · have e3' : (k == 3) = false := by simpa using e3
          clear e3
          go_wp2
          go_ret
          exact ⟨_, rfl, by omega, s4.bel⟩
end Go.Proofs.Ytadidkkpokpocac
