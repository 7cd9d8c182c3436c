import Derived.Test.YtadidkkpokpocabWLaw0
import Derived.Test.YtadidkkpokpocabImpW
import Derived.Test.YtadidkkpokpocabWDraw
import Derived.Deep.QuietTactic
import Derived.BigQuiet
namespace Go.Proofs.Ytadidkkpokpocab
open Go.RowKit
set_option linter.unusedVariables false

theorem sgnBits_len (k : Int) : ((sgnBits k).length : Int) = if k < 24 then 5 else 7 := by
  unfold sgnBits
  split
  · rw [bitsL_length]; rfl
  · rw [bitsL_length]; rfl
theorem sgn_eq {c : Int} {m : Nat} (hm : m < 39) (h : 0 ≤ sgn c) : WS.getD m 0 = c ↔ sgn c = m := by
  constructor
  · intro e
    rw [← e, sgn_at hm]
  · intro e
    have := sgn_back h
    rw [e] at this
    simpa using this

set_option maxHeartbeats 1000000 in
theorem fnPackBack_walk (a0 : Option Addr) (len0 cap0 : Nat) (z0 : List Int) (w : World) (w0 : Row w a0 len0 cap0 z0) :
    Calls Try.prog 5 #[.slice a0 len0 cap0] w fun e w' => e = .returned (.bool true) ∧ Below w.heap.size w w' := by
  by_cases c0 : (1048576 : Int) < len0
  · clear w0
    go_enter Try.func5, Try.ntmps5
    go_wp2
    go_ret
    exact ⟨rfl, Below.refl _ _⟩
  have R0 : Hid (Row w a0 len0 cap0 z0) := w0
  clear w0
  go_enter Try.func5, Try.ntmps5
  go_wp2_with fail
  refine (drawWordPack _ _ _ _ _ R0.out).mono ?_
  rintro e wa ⟨t, rfl, ht, hb⟩
  have HT : Hid (t.size ≤ maxLen) := show t.size ≤ maxLen by unfold maxLen; omega
  go_wp2_with fail
  refine (implPack _ _ HT.out).mono ?_
  rintro e wb ⟨rfl, hb2⟩
  go_wp2_with fail
  refine (specPack _ _ HT.out).mono ?_
  rintro e wc ⟨rfl, hb3⟩
  have hB := bt (bt hb hb2) hb3
  clear hb hb2 hb3
  go_wp2_with fail
  refine (specWordOk _ _ HT.out).mono ?_
  obtain ⟨ok, hok⟩ : ∃ ok, wOk (bytesL t) = ok := ⟨_, rfl⟩
  have HK : Hid (wOk (bytesL t) = ok) := hok
  rw [hok]
  rintro e wd ⟨rfl, rfl⟩
  cases ok with
  | false =>
    clear hok
    go_wp2_with fail
    refine (specPack _ _ HT.out).mono ?_
    rintro e we ⟨rfl, hb4⟩
    go_wp2
    go_ret
    exact ⟨rfl, bt hB hb4⟩
  | true =>
    obtain ⟨hS, hL⟩ := wOk_allS hok
    rw [bytesL_length] at hL
    have HS : Hid (allS (bytesL t)) := hS
    have hps := packV_size t
    have HPM : Hid ((packV t).size ≤ maxLen) := show (packV t).size ≤ maxLen by unfold maxLen; omega
    have HU : Hid (unpV (packV t) = (t, true)) := unpV_pack hok
    have HSZ : Hid ((packV t).size = ((packB (bytesL t)).length + 7) / 8) := by
      show (packV t).size = ((packB (bytesL t)).length + 7) / 8
      rw [packV_ok hok, strOfNums_size, packL_len]
    clear hok hS
    go_wp2_with fail
    refine (implUnpack _ _ HPM.out).mono ?_
    rw [HU.out]
    rintro e we ⟨rfl, hb4⟩
    have hB2 := bt hB hb4
    clear hB hb4
    go_wp2
    go_loopw [7, 8] (fun bv iv wr => ∃ k : Nat, k ≤ t.size ∧ iv = .int .i64 k ∧ bv = .int .i64 ((packB ((bytesL t).take k)).length : Int) ∧ Below w.heap.size w wr) (fun _ iv _ => t.size - (intOf iv).toNat)
    case atStart => exact ⟨0, by omega, rfl, rfl, hB2⟩
    case round =>
      clear hB2
      obtain ⟨k, hk, rfl, rfl, hbel⟩ := hrel
      by_cases hlt : k < t.size
      · have hlt' : (k : Int) < t.size := by omega
        have hkl : k < (bytesL t).length := by rw [bytesL_length]; exact hlt
        obtain ⟨c, hc⟩ : ∃ c, (bytesL t)[k] = c := ⟨_, rfl⟩
        have hq : ((t[k]'hlt).toNat : Int) = c := by rw [bytesL_at, ← hc]
        have hmem : c ∈ bytesL t := by rw [← hc]; exact List.getElem_mem hkl
        obtain ⟨x0, x1⟩ := bytesL_bd t c hmem
        have hsg := HS.out c hmem
        have HN : Hid (((packB ((bytesL t).take (k + 1))).length : Int) = ((packB ((bytesL t).take k)).length : Int) + if sgn c < 24 then 5 else 7) := by
          show ((packB ((bytesL t).take (k + 1))).length : Int) = _
          rw [List.take_succ_eq_append_getElem hkl, packB_snoc, hc, List.length_append, ← sgnBits_len]
          omega
        have hpl := packB_length ((bytesL t).take k)
        rw [List.length_take] at hpl
        have hpl2 : ((packB ((bytesL t).take k)).length : Int) ≤ 112 := by omega
        obtain ⟨P, hP⟩ : ∃ P, ((packB ((bytesL t).take k)).length : Int) = P := ⟨_, rfl⟩
        rw [hP] at hpl2
        have hP0 : 0 ≤ P := by omega
        have HP : Hid (((packB ((bytesL t).take k)).length : Int) = P) := hP
        rw [hP]
        clear hc hmem hkl hpl hP
        go_wp2
        go_loopw [9, 10] (fun nv kv wr => ∃ m : Nat, m ≤ 24 ∧ kv = .int .i64 m ∧ nv = .int .i64 (if sgn c < m then 5 else 7) ∧ Below w.heap.size w wr) (fun _ kv _ => 24 - (intOf kv).toNat)
        case atStart => exact ⟨0, by omega, rfl, by rw [if_neg (by omega)], hbel⟩
        case round =>
          clear hbel
          obtain ⟨m, hm, rfl, rfl, hbel⟩ := hrel
          by_cases hm24 : m < 24
          · have hm24' : (m : Int) < 24 := by omega
            obtain ⟨x, hx⟩ : ∃ x, WS.getD m 0 = x := ⟨_, rfl⟩
            have hqw := WS_at m (by show m < 39; omega)
            rw [hx] at hqw
            have hiff := sgn_eq (m := m) (c := c) (by omega) hsg
            rw [hx] at hiff
            have HIFF : Hid (x = c ↔ sgn c = m) := hiff
            clear hx hiff
            obtain ⟨nv, hnv⟩ : ∃ nv, (if sgn c < (m : Int) then (5 : Int) else 7) = nv := ⟨_, rfl⟩
            have HNV : Hid ((if sgn c < (m : Int) then (5 : Int) else 7) = nv) := hnv
            rw [hnv]
            clear hnv
            by_cases hxc : x = c
            · have hse : Hid (sgn c = m) := HIFF.out.1 hxc
              have hxc' : (x == c) = true := by simp [hxc]
              have hn : Hid ((if sgn c < ((m + 1 : Nat) : Int) then (5 : Int) else 7) = 5) := by
                show (if sgn c < ((m + 1 : Nat) : Int) then (5 : Int) else 7) = 5
                rw [if_pos (by have := hse.out; omega)]
              clear hxc
              go_wp2
              go_quiet (fail)
              go_wp2
              go_roundw
              case rel => exact ⟨m + 1, by omega, by go_num, by rw [hn.out], below_drewN hbel _⟩
              case measure => simp [intOf]; omega
            · have hse : Hid (¬ sgn c = m) := show ¬ sgn c = m from fun h => hxc (HIFF.out.2 h)
              have hxc' : (x == c) = false := by simp [hxc]
              have hn : Hid ((if sgn c < ((m + 1 : Nat) : Int) then (5 : Int) else 7) = if sgn c < (m : Int) then 5 else 7) := by
                show (if sgn c < ((m + 1 : Nat) : Int) then (5 : Int) else 7) = if sgn c < (m : Int) then 5 else 7
                have := hse.out
                by_cases h : sgn c < (m : Int)
                · rw [if_pos h, if_pos (by omega)]
                · rw [if_neg h, if_neg (by omega)]
              clear hxc
              go_wp2
              go_quiet (fail)
              go_wp2
              go_roundw
              case rel => exact ⟨m + 1, by omega, by go_num, by rw [hn.out, HNV.out], below_drewN hbel _⟩
              case measure => simp [intOf]; omega
          · have hm' : m = 24 := by omega
            subst hm'
            obtain ⟨nv, hnv⟩ : ∃ nv, (if sgn c < ((24 : Nat) : Int) then (5 : Int) else 7) = nv := ⟨_, rfl⟩
            have HNV : Hid ((if sgn c < (24 : Int) then (5 : Int) else 7) = nv) := hnv
            have hn1 : nv = 5 ∨ nv = 7 := by rw [← hnv]; split <;> simp
            rw [hnv]
            have hn2 : 5 ≤ nv := by omega
            have hn3 : nv ≤ 7 := by omega
            clear hnv hn1
            go_wp2
            go_roundw
            case rel => exact ⟨k + 1, by omega, by go_num, val_int (by rw [HN.out, HP.out, HNV.out]), hbel⟩
            case measure => simp [intOf]; omega
      · have hall : (bytesL t).take k = bytesL t := List.take_of_length_le (by rw [bytesL_length]; omega)
        rw [hall]
        obtain ⟨P, hP⟩ : ∃ P : Nat, (packB (bytesL t)).length = P := ⟨_, rfl⟩
        have hpl := packB_length (bytesL t)
        rw [bytesL_length] at hpl
        have HSZ2 : ((((packV t).size : Nat) : Int) == ((P : Int) + 7) / 8) = true := by rw [HSZ.out, hP]; simp
        rw [hP] at hpl ⊢
        clear hall hP
        go_wp2
        go_ret
        exact ⟨rfl, hbel⟩
end Go.Proofs.Ytadidkkpokpocab
