import Derived.Test.YtghgcobnmmommaaDoorEdD
import Derived.Test.YtghgcobnmmommaaDoorEdE4
namespace Go.Proofs.YtghgcobnmmommaaDoor
open Go.RowKit
set_option linter.unusedVariables false

theorem upL_snoc (l : List Int) (x : Int) : upL (l ++ [x]) = upL l ++ [if 97 ≤ x ∧ x < 122 then x + 1 else x] := by unfold upL; rw [List.map_append]; rfl
theorem upS_step (l : List Int) (x y : Int) (h : (if 97 ≤ x ∧ x < 122 then x + 1 else x) = y) : strOfNums (upL (l ++ [x])) = strOfNums (upL l) ++ strOfNums [y] := by
  rw [upL_snoc, h, strOfNums_append]
set_option maxRecDepth 100000 in
set_option maxHeartbeats 4000000 in
theorem l21Up_any (s : ByteArray) (w : World) (hm : s.size ≤ maxLen) :
    Calls Tryd.prog 12 #[.string s] w fun e w' => e = .returned (.string (upB s)) ∧ Below w.heap.size w w' := by
  unfold maxLen at hm
  have hcv := fun n w => convert_one (P := Tryd.prog) Tryd.underlying22 Tryd.underlying5 Tryd.underlying9 n w
  go_enter Tryd.func12, Tryd.ntmps12
  go_wp2
  go_loopw [3, 4] (fun o i wr => ∃ k : Nat, k ≤ s.size ∧ i = .int .i64 k ∧ o = .string (strOfNums (upL ((bytesL s).take k))) ∧ Below w.heap.size w wr) (fun _ i _ => s.size - (intOf i).toNat)
  case atStart => exact ⟨0, by omega, rfl, rfl, Below.refl _ _⟩
  case round =>
    obtain ⟨k, hk, rfl, rfl, hB⟩ := hrel
    have hoz : (strOfNums (upL ((bytesL s).take k))).size ≤ k := by
      rw [strOfNums_size]; unfold upL; rw [List.length_map, List.length_take]; omega
    obtain ⟨out, hout⟩ : ∃ out, strOfNums (upL ((bytesL s).take k)) = out := ⟨_, rfl⟩
    rw [hout] at hoz
    have HOUT : Hid (strOfNums (upL ((bytesL s).take k)) = out) := hout
    rw [hout]
    clear hout
    by_cases hlt : k < s.size
    · have hlt' : (k : Int) < s.size := by omega
      obtain ⟨x, hx⟩ : ∃ x, (bytesL s).getD k 0 = x := ⟨_, rfl⟩
      have hkl : k < (bytesL s).length := by rw [bytesL_length]; exact hlt
      have hxk : (bytesL s)[k]'hkl = x := by rw [← hx]; simp [List.getD, hkl]
      have hq : ((s[k]'hlt).toNat : Int) = x := by rw [bytesL_at, hxk]
      have hxb := bytesL_bd s x (by rw [← hxk]; exact List.getElem_mem hkl)
      obtain ⟨x0, x1⟩ := hxb
      have HTK : Hid ((bytesL s).take (k + 1) = (bytesL s).take k ++ [x]) := by
        show (bytesL s).take (k + 1) = (bytesL s).take k ++ [x]
        rw [List.take_succ_eq_append_getElem hkl, hxk]
      clear hx hkl hxk
      have hw1 : IntKind.u8.wrap (x + 1) = x + 1 ∨ True := .inr trivial
      have hsz1 : ∀ y, (strOfNums [y]).size = 1 := fun _ => rfl
      have hc4 : ∀ y, out.size + (strOfNums [y]).size ≤ 9223372036854775807 := fun y => by have : (strOfNums [y]).size = 1 := rfl; omega
      have hc4' : ∀ y, ¬ 9223372036854775807 < out.size + (strOfNums [y]).size := fun y => by have := hc4 y; omega
      clear hw1 hsz1
      by_cases ha : 97 ≤ x
      · by_cases hz : x < 122
        · have hw1 : IntKind.u8.wrap (x + 1) = x + 1 := by rw [IntKind.wrap_u8]; omega
          have HY : Hid ((if 97 ≤ x ∧ x < 122 then x + 1 else x) = x + 1) := if_pos ⟨ha, hz⟩
          go_wp2
          go_roundw
          case rel => exact ⟨k + 1, by omega, by go_num, by rw [HTK.out, upS_step _ _ _ HY.out, HOUT.out], hB.alloc hB.size _⟩
          case measure => simp [intOf]; omega
        · have HY : Hid ((if 97 ≤ x ∧ x < 122 then x + 1 else x) = x) := if_neg (fun h => hz h.2)
          go_wp2
          go_roundw
          case rel => exact ⟨k + 1, by omega, by go_num, by rw [HTK.out, upS_step _ _ _ HY.out, HOUT.out], hB.alloc hB.size _⟩
          case measure => simp [intOf]; omega
      · have HY : Hid ((if 97 ≤ x ∧ x < 122 then x + 1 else x) = x) := if_neg (fun h => ha h.1)
        go_wp2
        go_roundw
        case rel => exact ⟨k + 1, by omega, by go_num, by rw [HTK.out, upS_step _ _ _ HY.out, HOUT.out], hB.alloc hB.size _⟩
        case measure => simp [intOf]; omega
    · have hlt' : ¬ (k : Int) < s.size := by omega
      have HF : Hid (upB s = out) := by
        show upB s = out
        rw [← HOUT.out, List.take_of_length_le (by rw [bytesL_length]; omega)]
        rfl
      go_wp2
      go_ret
      exact ⟨by rw [HF.out]; rfl, hB⟩

theorem bal (s : ByteArray) (l : List UInt8) (h : s.data.toList = l) : s.toList = l := by
  rw [← h]
  exact ByteArray.toList_eq s
theorem pEcho_l : pEcho.toList = [47, 101, 99, 104, 111] := bal _ _ rfl
theorem pUp_l : pUp.toList = [47, 117, 112] := bal _ _ rfl
theorem pLen_l : pLen.toList = [47, 108, 101, 110] := bal _ _ rfl
set_option maxRecDepth 100000 in
theorem specEndAnswer (path text : ByteArray) (w : World) (hm : text.size ≤ maxLen) :
    Calls Tryd.prog 7 #[.string path, .string text] w fun e w' => e = .returned (.tuple #[.string (edAns path text).1, .string (edAns path text).2]) ∧ Below w.heap.size w w' := by
  have hup := fun w => l21Up_any text w hm
  unfold maxLen at hm
  have hdec := fun w => l6Dec_any text.size text.size w (Nat.le_refl _) hm
  unfold edAns
  rw [pEcho_l, pUp_l, pLen_l]
  by_cases h1 : (path.toList == [47, 101, 99, 104, 111]) = true
  · rw [if_pos h1]
    dsimp only
    go_enter Tryd.func7, Tryd.ntmps7
    go_wp2
    go_ret2
    exact ⟨rfl, Below.refl _ _⟩
  · rw [if_neg h1]
    have h1' : (path.toList == [47, 101, 99, 104, 111]) = false := by simpa using h1
    by_cases h2 : (path.toList == [47, 117, 112]) = true
    · rw [if_pos h2]
      dsimp only
      clear h1
      go_enter Tryd.func7, Tryd.ntmps7
      go_wp2_with (go_at_call 12; refine (hup _).mono ?_; rintro e w1 ⟨rfl, hb⟩)
      go_ret2
      exact ⟨rfl, hb⟩
    · rw [if_neg h2]
      have h2' : (path.toList == [47, 117, 112]) = false := by simpa using h2
      by_cases h3 : (path.toList == [47, 108, 101, 110]) = true
      · rw [if_pos h3]
        dsimp only
        clear h1 h2
        go_enter Tryd.func7, Tryd.ntmps7
        go_wp2_with (go_at_call 13; refine (hdec _).mono ?_; rintro e w1 ⟨rfl, hb⟩)
        go_ret2
        exact ⟨rfl, hb⟩
      · rw [if_neg h3]
        have h3' : (path.toList == [47, 108, 101, 110]) = false := by simpa using h3
        dsimp only
        clear h1 h2 h3
        go_enter Tryd.func7, Tryd.ntmps7
        go_wp2
        go_ret2
        exact ⟨rfl, Below.refl _ _⟩
end Go.Proofs.YtghgcobnmmommaaDoor
