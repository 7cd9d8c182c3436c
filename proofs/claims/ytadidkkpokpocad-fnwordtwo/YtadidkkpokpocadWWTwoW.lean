import Derived.Test.YtadidkkpokpocadWLaw0
import Derived.Test.YtadidkkpokpocadImpW
import Derived.Test.YtadidkkpokpocadWDraw
namespace Go.Proofs.Ytadidkkpokpocad
open Go.RowKit
set_option linter.unusedVariables false

set_option maxHeartbeats 1000000 in
theorem fnWordTwo_walk (a0 : Option Addr) (len0 cap0 : Nat) (z0 : List Int) (a1 : Option Addr) (len1 cap1 : Nat) (z1 : List Int) (w : World) (w0 : Row w a0 len0 cap0 z0) (w1 : Row w a1 len1 cap1 z1) :
    Calls Try.prog 3 #[.slice a0 len0 cap0, .slice a1 len1 cap1] w fun e w' => e = .returned (.bool true) ∧ Below w.heap.size w w' := by
  by_cases c0 : (1048576 : Int) < len0
  · clear w0 w1
    go_enter Try.func3, Try.ntmps3
    go_wp2
    go_ret
    exact ⟨rfl, Below.refl _ _⟩
  by_cases c1 : (1048576 : Int) < len1
  · clear w0 w1
    go_enter Try.func3, Try.ntmps3
    go_wp2
    go_ret
    exact ⟨rfl, Below.refl _ _⟩
  have R0 : Hid (Row w a0 len0 cap0 z0) := w0
  have R1 : Hid (Row w a1 len1 cap1 z1) := w1
  clear w0 w1
  go_enter Try.func3, Try.ntmps3
  go_wp2_with fail
  refine (drawWordWrite _ _ _ _ _ R0.out).mono ?_
  rintro e wa ⟨t, rfl, ht, hb⟩
  have R2 : Hid (Row wa a1 len1 cap1 z1) := R1.out.below hb
  clear R1
  have HT : Hid (t.size ≤ maxLen) := show t.size ≤ maxLen by unfold maxLen; omega
  go_wp2_with fail
  refine (drawWordPack _ _ _ _ _ R2.out).mono ?_
  rintro e wa2 ⟨v, rfl, hv, hbv⟩
  have HTV : Hid (v.size ≤ maxLen) := show v.size ≤ maxLen by unfold maxLen; omega
  go_wp2_with fail
  refine (implWrite _ _ HT.out).mono ?_
  rintro e wb ⟨rfl, hb2⟩
  go_wp2_with fail
  refine (implWrite _ _ HTV.out).mono ?_
  rintro e wb2 ⟨rfl, hb22⟩
  go_wp2_with fail
  refine (specWrite _ _ HT.out).mono ?_
  rintro e wc ⟨rfl, hb3⟩
  have hB := bt (bt (bt (bt hb hbv) hb2) hb22) hb3
  clear hb hbv hb2 hb22 hb3
  by_cases hok : wOk (bytesL t) = true
  · have hne := isEmpty_false (wrV_pos hok)
    have hsz := wrV_size t
    have hsz2 := wrV_size v
    by_cases hok2 : wOk (bytesL v) = true
    · have hne2 := isEmpty_false (wrV_pos hok2)
      have HM1 : Hid ((wrV t ++ wrV v).size ≤ maxLen) := show (wrV t ++ wrV v).size ≤ maxLen by rw [ByteArray.size_append]; unfold maxLen; omega
      have HM2 : Hid ((wrV v).size ≤ maxLen) := show (wrV v).size ≤ maxLen by unfold maxLen; omega
      have HR1 : Hid (rdWV (wrV t ++ wrV v) = (t, ((wrV t).size : Int), true)) := rdWV_write hok _
      have HR2 : Hid (rdWV (wrV v) = (v, ((wrV v).size : Int), true)) := rdWV_back hok2
      have e6 : (wrV t ++ wrV v).extract (wrV t).size ((wrV t).size + (wrV v).size) = wrV v := by
        apply bytesL_inj
        rw [bytesL_extract, bytesL_append, ← bytesL_length, ← bytesL_length, ← List.length_append, List.take_length, List.drop_left]
      clear hok hok2
      go_wp2_with fail
      refine (implRead _ _ HM1.out).mono ?_
      rw [HR1.out]
      rintro e wd ⟨rfl, hb4⟩
      go_wp2_with fail
      refine (implRead _ _ HM2.out).mono ?_
      rw [HR2.out]
      rintro e we ⟨rfl, hb5⟩
      go_wp2
      go_ret
      exact ⟨rfl, bt (bt hB hb4) hb5⟩
    · have hbad : wOk (bytesL v) = false := by simpa using hok2
      rw [wrV_bad hbad]
      clear hok hok2
      go_wp2_with fail
      refine (specWrite _ _ HT.out).mono ?_
      rintro e wd ⟨rfl, hb4⟩
      go_wp2
      go_ret
      exact ⟨rfl, bt hB hb4⟩
  · have hbad : wOk (bytesL t) = false := by simpa using hok
    rw [wrV_bad hbad]
    clear hok
    go_wp2_with fail
    refine (specWrite _ _ HT.out).mono ?_
    rw [wrV_bad hbad]
    rintro e wd ⟨rfl, hb4⟩
    go_wp2
    go_ret
    exact ⟨rfl, bt hB hb4⟩
end Go.Proofs.Ytadidkkpokpocad
