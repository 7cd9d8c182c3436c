import Derived.Test.YtadidkkpokpocacWLaw0
import Derived.Test.YtadidkkpokpocacImpW1
import Derived.Test.YtadidkkpokpocacWDraw
import Derived.Deep.QuietTactic
import Derived.BigQuiet
namespace Go.Proofs.Ytadidkkpokpocac
open Go.RowKit
set_option linter.unusedVariables false

set_option maxHeartbeats 1000000 in
theorem fnPackBegins_walk (a0 : Option Addr) (len0 cap0 : Nat) (z0 : List Int) (a1 : Option Addr) (len1 cap1 : Nat) (z1 : List Int) (w : World) (w0 : Row w a0 len0 cap0 z0) (w1 : Row w a1 len1 cap1 z1) :
    Calls Try.prog 8 #[.slice a0 len0 cap0, .slice a1 len1 cap1] w fun e w' => e = .returned (.bool true) ∧ Below w.heap.size w w' := by
  by_cases c0 : (1048576 : Int) < len0
  · clear w0 w1
    go_enter Try.func8, Try.ntmps8
    go_wp2
    go_ret
    exact ⟨rfl, Below.refl _ _⟩
  by_cases c1 : (1048576 : Int) < len1
  · clear w0 w1
    go_enter Try.func8, Try.ntmps8
    go_wp2
    go_ret
    exact ⟨rfl, Below.refl _ _⟩
  have R0 : Hid (Row w a0 len0 cap0 z0) := w0
  have R1 : Hid (Row w a1 len1 cap1 z1) := w1
  clear w0 w1
  go_enter Try.func8, Try.ntmps8
  go_wp2_with fail
  refine (drawWordPack _ _ _ _ _ R0.out).mono ?_
  rintro e wa ⟨t, rfl, ht, hb⟩
  have HT : Hid (t.size ≤ maxLen) := show t.size ≤ maxLen by unfold maxLen; omega
  go_wp2_with fail
  refine (implPack _ _ HT.out).mono ?_
  rintro e wb ⟨rfl, hb2⟩
  go_wp2_with fail
  refine (specPack _ _ HT.out).mono ?_
  rintro e wc ⟨rfl, hb3⟩
  have hB := bt (bt hb hb2) hb3
  clear hb hb2 hb3
  go_wp2_with fail
  refine (specWordOk _ _ HT.out).mono ?_
  obtain ⟨ok, hok⟩ : ∃ ok, wOk (bytesL t) = ok := ⟨_, rfl⟩
  have HK : Hid (wOk (bytesL t) = ok) := hok
  rw [hok]
  rintro e wd ⟨rfl, rfl⟩
  cases ok with
  | false =>
    clear hok
    go_wp2_with fail
    refine (specPack _ _ HT.out).mono ?_
    rintro e we ⟨rfl, hb4⟩
    go_wp2
    go_ret
    exact ⟨rfl, bt hB hb4⟩
  | true =>
    obtain ⟨hS, hL⟩ := wOk_allS hok
    rw [bytesL_length] at hL
    have HS : Hid (allS (bytesL t)) := hS
    have hps := packV_size t
    have HPL : Hid ((packV t).size = (packL (bytesL t)).length) := by show (packV t).size = _; rw [packV_ok hok, strOfNums_size]
    clear hok hS
    by_cases h0 : t.size = 0
    · obtain rfl := size_zero h0
      go_wp2_with fail
      refine (specPack _ _ HT.out).mono ?_
      rintro e we ⟨rfl, hb4⟩
      go_wp2
      go_ret
      exact ⟨rfl, bt hB hb4⟩
    · have hne := isEmpty_false (show 0 < t.size by omega)
      have hne' : ¬ ((t.size : Nat) : Int) = 0 := by omega
      obtain ⟨k, hk⟩ : ∃ k : Nat, len1 % t.size = k := ⟨_, rfl⟩
      have hkt : k < t.size := by rw [← hk]; exact Nat.mod_lt _ (by omega)
      have hki : (len1 : Int) % (t.size : Int) = (k : Int) := by rw [← hk]; simp
      have hkt' : (k : Int) ≤ t.size := by omega
      have hokk : wOk (bytesL (t.extract 0 k)) = true := wOk_mk (fun c hc => HS.out c (by rw [bytesL_extract] at hc; exact List.mem_of_mem_take (List.mem_of_mem_drop hc))) (by rw [bytesL_length, ByteArray.size_extract]; omega)
      have hpk := packV_size (t.extract 0 k)
      obtain ⟨n, hn⟩ : ∃ n : Nat, (packL ((bytesL t).take k)).length - 1 = n := ⟨_, rfl⟩
      have hbeg := packL_begins ((bytesL t).take k) ((bytesL t).drop k) n hn.symm
      rw [List.take_append_drop] at hbeg
      have hbk : bytesL (t.extract 0 k) = (bytesL t).take k := by rw [bytesL_extract, List.drop_zero]
      have hsk : (packV (t.extract 0 k)).size = (packL ((bytesL t).take k)).length := by rw [packV_ok hokk, strOfNums_size, hbk]
      have e1 : (((packV t).extract 0 n).toList == ((packV (t.extract 0 k)).extract 0 n).toList) = true := eqT (by
        apply bytesL_inj
        rw [bytesL_extract, bytesL_extract, List.drop_zero, List.drop_zero, bytesL_packV HK.out, bytesL_packV hokk, hbk]
        exact hbeg.2)
      have l1 : (packV (t.extract 0 k)).size ≤ (packV t).size := by rw [hsk, HPL.out]; exact hbeg.1
      have l1' : ((packV (t.extract 0 k)).size : Int) ≤ (packV t).size := by omega
      have l2 : n ≤ (packV (t.extract 0 k)).size := by rw [hsk]; omega
      have l2' : (n : Int) ≤ (packV (t.extract 0 k)).size := by omega
      have l3' : (n : Int) ≤ (packV t).size := by omega
      have hmx : (if ((packV (t.extract 0 k)).size : Int) - 1 < 0 then 0 else ((packV (t.extract 0 k)).size : Int) - 1) = (n : Int) := by
        rw [hsk]
        split <;> omega
      have HM2 : Hid ((t.extract 0 k).size ≤ maxLen) := show (t.extract 0 k).size ≤ maxLen by rw [ByteArray.size_extract]; unfold maxLen; omega
      clear hk hn hbeg hbk hsk hokk
      go_wp2_with fail
      refine (implPack _ _ HM2.out).mono ?_
      rintro e we ⟨rfl, hb4⟩
      go_wp2
      go_quiet (fail)
      go_wp2
      go_ret
      exact ⟨rfl, below_drewN (bt hB hb4) _⟩
end Go.Proofs.Ytadidkkpokpocac
