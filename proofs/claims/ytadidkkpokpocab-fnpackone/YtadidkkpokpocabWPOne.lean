import Derived.Test.YtadidkkpokpocabWLaw0
import Derived.Test.YtadidkkpokpocabImpW
import Derived.Test.YtadidkkpokpocabWDraw
namespace Go.Proofs.Ytadidkkpokpocab
open Go.RowKit
set_option linter.unusedVariables false

set_option maxHeartbeats 1000000 in
theorem fnPackOne_walk (a0 : Option Addr) (len0 cap0 : Nat) (z0 : List Int) (a1 : Option Addr) (len1 cap1 : Nat) (z1 : List Int) (w : World) (w0 : Row w a0 len0 cap0 z0) (w1 : Row w a1 len1 cap1 z1) :
    Calls Try.prog 7 #[.slice a0 len0 cap0, .slice a1 len1 cap1] w fun e w' => e = .returned (.bool true) ∧ Below w.heap.size w w' := by
  by_cases c0 : (1048576 : Int) < len0
  · clear w0 w1
    go_enter Try.func7, Try.ntmps7
    go_wp2
    go_ret
    exact ⟨rfl, Below.refl _ _⟩
  by_cases c1 : (1048576 : Int) < len1
  · clear w0 w1
    go_enter Try.func7, Try.ntmps7
    go_wp2
    go_ret
    exact ⟨rfl, Below.refl _ _⟩
  have R0 : Hid (Row w a0 len0 cap0 z0) := w0
  have R1 : Hid (Row w a1 len1 cap1 z1) := w1
  clear w0 w1
  go_enter Try.func7, Try.ntmps7
  go_wp2_with fail
  refine (drawWordPack _ _ _ _ _ R0.out).mono ?_
  rintro e wa ⟨t, rfl, ht, hb⟩
  have R2 : Hid (Row wa a1 len1 cap1 z1) := R1.out.below hb
  clear R1
  have HT : Hid (t.size ≤ maxLen) := show t.size ≤ maxLen by unfold maxLen; omega
  go_wp2_with fail
  refine (drawWordWrite _ _ _ _ _ R2.out).mono ?_
  rintro e wa2 ⟨v, rfl, hv, hbv⟩
  have HTV : Hid (v.size ≤ maxLen) := show v.size ≤ maxLen by unfold maxLen; omega
  go_wp2_with fail
  refine (implPack _ _ HT.out).mono ?_
  rintro e wb ⟨rfl, hb2⟩
  go_wp2_with fail
  refine (implPack _ _ HTV.out).mono ?_
  rintro e wb2 ⟨rfl, hb22⟩
  go_wp2_with fail
  refine (specPack _ _ HT.out).mono ?_
  rintro e wc ⟨rfl, hb3⟩
  have hB := bt (bt (bt (bt hb hbv) hb2) hb22) hb3
  clear hb hbv hb2 hb22 hb3
  go_wp2_with fail
  refine (specWordOk _ _ HT.out).mono ?_
  obtain ⟨ok, hok⟩ : ∃ ok, wOk (bytesL t) = ok := ⟨_, rfl⟩
  rw [hok]
  rintro e wd ⟨rfl, rfl⟩
  cases ok with
  | false =>
    clear hok
    go_wp2_with fail
    refine (specPack _ _ HT.out).mono ?_
    rintro e we ⟨rfl, hb4⟩
    go_wp2
    go_ret
    exact ⟨rfl, bt hB hb4⟩
  | true =>
    have HK : Hid (wOk (bytesL t) = true) := hok
    clear hok
    go_wp2_with fail
    refine (specWordOk _ _ HTV.out).mono ?_
    obtain ⟨ok2, hok2⟩ : ∃ ok2, wOk (bytesL v) = ok2 := ⟨_, rfl⟩
    rw [hok2]
    rintro e wd ⟨rfl, rfl⟩
    cases ok2 with
    | false =>
      clear hok2
      go_wp2_with fail
      refine (specPack _ _ HT.out).mono ?_
      rintro e we ⟨rfl, hb4⟩
      go_wp2
      go_ret
      exact ⟨rfl, bt hB hb4⟩
    | true =>
      have a1 := wOk_allS HK.out
      have a2 := wOk_allS hok2
      have hem : ((packV t).toList.isEmpty == t.toList.isEmpty) = true := by
        by_cases h0 : t.size = 0
        · obtain rfl := size_zero h0
          rw [packV_ok HK.out, bytesL_none, List.eq_nil_of_length_eq_zero (l := packL []) (by rw [packL_len]; rfl), size_zero (s := strOfNums []) rfl, beq_self_eq_true]
        · rw [isEmpty_false (show 0 < t.size by omega), isEmpty_false (s := packV t)]
          · rfl
          · rw [packV_ok HK.out, strOfNums_size]
            rcases Nat.eq_zero_or_pos (packL (bytesL t)).length with h | h
            · exfalso
              have := packL_nil (List.eq_nil_of_length_eq_zero h)
              rw [← bytesL_length, this] at h0
              exact h0 rfl
            · exact h
      have heq : (((packV t).toList == (packV v).toList) == (t.toList == v.toList)) = true := by
        by_cases h : t = v
        · subst h; simp
        · have h1 : packV t ≠ packV v := by
            intro e
            apply h
            apply bytesL_inj
            refine packL_inj a1.1 a2.1 a1.2 a2.2 ?_
            rw [← bytesL_packV HK.out, ← bytesL_packV hok2, e]
          rw [neF h, neF h1]; rfl
      obtain ⟨p, hp⟩ : ∃ p, ((packV t).toList == (packV v).toList) = p := ⟨_, rfl⟩
      obtain ⟨q, hq⟩ : ∃ q, (t.toList == v.toList) = q := ⟨_, rfl⟩
      obtain ⟨r, hr⟩ : ∃ r, (packV t).toList.isEmpty = r := ⟨_, rfl⟩
      obtain ⟨s, hs⟩ : ∃ s, t.toList.isEmpty = s := ⟨_, rfl⟩
      rw [hp, hq] at heq
      rw [hr, hs] at hem
      clear a1 a2 hok2
      cases p <;> cases q <;> cases r <;> cases s <;> simp at heq hem
      all_goals
        go_wp2
        go_ret
        exact ⟨rfl, hB⟩
end Go.Proofs.Ytadidkkpokpocab
