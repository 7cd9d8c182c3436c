import Derived.Test.YtadidkkpokpocabWLaw0
import Derived.Test.YtadidkkpokpocabImpW
import Derived.Test.YtadidkkpokpocabWDraw2
namespace Go.Proofs.Ytadidkkpokpocab
open Go.RowKit
set_option linter.unusedVariables false

set_option maxHeartbeats 1000000 in
theorem fnPackStrict_walk (a0 : Option Addr) (len0 cap0 : Nat) (z0 : List Int) (w : World) (w0 : Row w a0 len0 cap0 z0) :
    Calls Try.prog 6 #[.slice a0 len0 cap0] w fun e w' => e = .returned (.bool true) ∧ Below w.heap.size w w' := by
  by_cases c0 : (1048576 : Int) < len0
  · clear w0
    go_enter Try.func6, Try.ntmps6
    go_wp2
    go_ret
    exact ⟨rfl, Below.refl _ _⟩
  have R0 : Hid (Row w a0 len0 cap0 z0) := w0
  clear w0
  go_enter Try.func6, Try.ntmps6
  go_wp2_with fail
  refine (drawWordUnpack _ _ _ _ _ R0.out).mono ?_
  rintro e wa ⟨t, rfl, ht, hb⟩
  have HT : Hid (t.size ≤ maxLen) := show t.size ≤ maxLen by unfold maxLen; omega
  go_wp2_with fail
  refine (specUnpack _ _ HT.out).mono ?_
  rintro e wb ⟨rfl, hb2⟩
  go_wp2_with fail
  refine (implUnpack _ _ HT.out).mono ?_
  rintro e wc ⟨rfl, hb3⟩
  have hB := bt (bt hb hb2) hb3
  clear hb hb2 hb3
  rcases unpV_two t with hu | ⟨x, hu⟩
  · rw [hu]
    clear hu
    go_wp2
    go_ret
    exact ⟨rfl, hB⟩
  · obtain ⟨hok, hpk⟩ := unpV_strict hu
    rw [hu]
    have HK : Hid (wOk (bytesL x) = true) := hok
    have HP : Hid (packV x = t) := hpk
    have h16 := (wOk_allS hok).2
    rw [bytesL_length] at h16
    have HX : Hid (x.size ≤ maxLen) := show x.size ≤ maxLen by unfold maxLen; omega
    clear hu hok hpk
    go_wp2_with fail
    refine (implOk _ _ HX.out).mono ?_
    rw [HK.out]
    rintro e wd ⟨rfl, hb4⟩
    go_wp2_with fail
    refine (implPack _ _ HX.out).mono ?_
    rw [HP.out]
    rintro e we ⟨rfl, hb5⟩
    go_wp2
    go_ret
    exact ⟨rfl, bt (bt hB hb4) hb5⟩
end Go.Proofs.Ytadidkkpokpocab
