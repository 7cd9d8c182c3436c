import Derived.Test.YtadidkkpokpocacWLaw0
import Derived.Test.YtadidkkpokpocacImpW
import Derived.Test.YtadidkkpokpocacWDraw
namespace Go.Proofs.Ytadidkkpokpocac
open Go.RowKit
set_option linter.unusedVariables false

set_option maxHeartbeats 1000000 in
theorem fnWordBack_walk (a0 : Option Addr) (len0 cap0 : Nat) (z0 : List Int) (a1 : Option Addr) (len1 cap1 : Nat) (z1 : List Int) (w : World) (w0 : Row w a0 len0 cap0 z0) (w1 : Row w a1 len1 cap1 z1) :
    Calls Try.prog 3 #[.slice a0 len0 cap0, .slice a1 len1 cap1] w fun e w' => e = .returned (.bool true) ∧ Below w.heap.size w w' := by
  by_cases c0 : (1048576 : Int) < len0
  · clear w0 w1
    go_enter Try.func3, Try.ntmps3
    go_wp2
    go_ret
    exact ⟨rfl, Below.refl _ _⟩
  by_cases c1 : (1048576 : Int) < len1
  · clear w0 w1
    go_enter Try.func3, Try.ntmps3
    go_wp2
    go_ret
    exact ⟨rfl, Below.refl _ _⟩
  have R0 : Hid (Row w a0 len0 cap0 z0) := w0
  have R1 : Hid (Row w a1 len1 cap1 z1) := w1
  clear w0 w1
  go_enter Try.func3, Try.ntmps3
  go_wp2_with fail
  refine (drawWordWrite _ _ _ _ _ R0.out).mono ?_
  rintro e wa ⟨t, rfl, ht, hb⟩
  have HT : Hid (t.size ≤ maxLen) := show t.size ≤ maxLen by unfold maxLen; omega
  go_wp2_with fail
  refine (implWrite _ _ HT.out).mono ?_
  rintro e wb ⟨rfl, hb2⟩
  go_wp2_with fail
  refine (specWrite _ _ HT.out).mono ?_
  rintro e wc ⟨rfl, hb3⟩
  have hB := bt (bt hb hb2) hb3
  clear hb hb2 hb3
  by_cases hok : wOk (bytesL t) = true
  · have hne := isEmpty_false (wrV_pos hok)
    have hsz := wrV_size t
    have HM : Hid ((wrV t).size ≤ maxLen) := show (wrV t).size ≤ maxLen by unfold maxLen; omega
    have HR1 := rdWV_back hok
    have HRB : Hid (rdWV (wrV t) = (t, ((wrV t).size : Int), true)) := HR1
    clear HR1
    go_wp2_with fail
    refine (implRead _ _ HM.out).mono ?_
    rw [HRB.out]
    rintro e wd ⟨rfl, hb4⟩
    have hq : len1 % 5 ≤ len1 := Nat.mod_le _ _
    obtain ⟨m, hm5, hcv⟩ := row_string (P := Try.prog) Try.underlying22 Try.underlying5 Try.underlying9 (R1.out.below (bt hB hb4)) (len1 % 5) hq
    have hcap : (len1 : Int) ≤ cap1 := by have := R1.out.cap; omega
    have hm4 : m.size ≤ 4 := by omega
    clear hm5 hq
    have HM2 : Hid ((wrV t ++ m).size ≤ maxLen) := show (wrV t ++ m).size ≤ maxLen by rw [ByteArray.size_append]; unfold maxLen; omega
    have HR2 : Hid (rdWV (wrV t ++ m) = (t, ((wrV t).size : Int), true)) := rdWV_write hok m
    go_wp2_with fail
    refine (implRead _ _ HM2.out).mono ?_
    rw [HR2.out]
    rintro e we ⟨rfl, hb5⟩
    go_wp2
    go_ret
    exact ⟨rfl, bt (bt hB hb4) hb5⟩
  · have hbad : wOk (bytesL t) = false := by simpa using hok
    rw [wrV_bad hbad]
    clear hok
    go_wp2_with fail
    refine (specWrite _ _ HT.out).mono ?_
    rw [wrV_bad hbad]
    rintro e wd ⟨rfl, hb4⟩
    go_wp2
    go_ret
    exact ⟨rfl, bt hB hb4⟩
end Go.Proofs.Ytadidkkpokpocac
