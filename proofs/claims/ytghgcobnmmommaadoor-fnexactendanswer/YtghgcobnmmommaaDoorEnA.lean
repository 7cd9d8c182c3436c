import Derived.Test.YtghgcobnmmommaaDoorEdE7
import Derived.Test.YtghgcobnmmommaaDoorBG
namespace Go.Proofs.YtghgcobnmmommaaDoor
open Go.RowKit
set_option linter.unusedVariables false

theorem frz2 {W : World} {B N : Nat} {cs : Array Value} {t : TypeId} (o : Nat) (h : W.heap[B]? = some (.cells cs t (N, N + 1))) (ho : o < N) : W.frozen? ⟨B, o, none⟩ = false := by
  simp [World.frozen?, h]
  omega
theorem setc_any {W : World} {B : Nat} {cs : Array Value} {t : TypeId} {fr : Nat × Nat} (o : Nat) (v : Value) (h : W.heap[B]? = some (.cells cs t fr)) : (W.setCell ⟨B, o, none⟩ v).heap[B]? = some (.cells (cs.setIfInBounds o v) t fr) := by
  obtain ⟨hlt, hk⟩ := Array.getElem?_eq_some_iff.1 h
  show (W.heap.modify B _)[B]? = _
  rw [Array.getElem?_eq_getElem (by rw [Array.size_modify]; exact hlt), Array.getElem_modify_self, hk]
  rfl
def upC (c : Int) : Int := if 97 ≤ c ∧ c < 122 then c + 1 else c
theorem conv_bytes (w : World) (s : ByteArray) : ∃ cap C w', (convert 9 22 (.string s)).run Tryd.prog w = .ok (.slice (some ⟨w.heap.size, 0, none⟩) s.size cap) w' ∧ Below w.heap.size w w' ∧ s.size ≤ C.size ∧
    w'.heap[w.heap.size]? = some (.cells C 5 (C.size, C.size + 1)) ∧ ∀ j, j < s.size → C[j]? = some (.int .u8 ((bytesL s).getD j 0)) := by
  refine ⟨_, _, _, Lib.run_convert_string_bytes w 9 22 5 s Tryd.underlying9 Tryd.underlying22 Tryd.underlying5, ⟨rfl, rfl, rfl, ?_, ?_⟩, ?_, Lib.bytesWorld_at_new w 5 s, ?_⟩
  · rw [Lib.bytesWorld_size]; omega
  · intro k hk; exact Lib.bytesWorld_at_old w _ s k hk
  · unfold Lib.bytesCells
    simp
  · intro j hj
    have hc := Lib.bytesWorld_cell w 5 s j hj
    rw [cell_of_row _ _ j _ _ _ (Lib.bytesWorld_at_new w 5 s)] at hc
    rw [hc]
    have h1 : j < s.data.toList.length := by simpa using hj
    have h2 : j < (bytesL s).length := by rw [bytesL_length]; exact hj
    simp only [List.getD_eq_getElem?_getD, List.getElem?_eq_getElem h1, List.getElem?_eq_getElem h2, Option.getD_some]
    rw [← bytesL_at s j hj]
    rfl
set_option maxRecDepth 100000 in
set_option maxHeartbeats 4000000 in
theorem endTextUp_any (s : ByteArray) (w : World) (hm : s.size ≤ 4000000) :
    Calls Tryd.prog 15 #[.string s] w fun e w' => e = .returned (.string (upB s)) ∧ Below w.heap.size w w' := by
  obtain ⟨cap, C0, w1, hcv, hb1, hC0, hB0, hat0⟩ := conv_bytes w s
  obtain ⟨l, hl⟩ : ∃ l, bytesL s = l := ⟨_, rfl⟩
  have hll : l.length = s.size := by rw [← hl, bytesL_length]
  have HBD : Hid (∀ x ∈ l, 0 ≤ x ∧ x ≤ 255) := by rw [← hl]; exact bytesL_bd s
  have HUP : Hid (upB s = strOfNums (l.map upC)) := by show upB s = _; unfold upB upL; rw [hl]; rfl
  rw [hl] at hat0
  have HL : Hid (l.length = s.size) := hll
  have HAT0 : Hid _ := hat0
  have HB0 : Hid _ := hB0
  have HB1 : Hid _ := hb1
  have HC0 : Hid _ := hC0
  have hsrc := fun (W : World) (h : ∀ i, i < s.size → W.cell? ⟨w.heap.size, 0 + i, none⟩ = some (.int .u8 ((l.map upC).getD i 0))) => run_convert_bytes_arg (P := Tryd.prog) (w := W) 22 5 Tryd.underlying22 Tryd.underlying5 w.heap.size 0 s.size cap (l.map upC) (by rw [List.length_map]; exact HL.out) h 9 Tryd.underlying9
  have HSRC : Hid _ := hsrc
  clear hl hll hat0 hB0 hb1 hC0 hsrc
  go_enter Tryd.func15, Tryd.ntmps15
  go_wp2
  go_loopw [10] (fun i wr => ∃ (k : Nat) (C : Array Value), k ≤ s.size ∧ i = .int .i64 k ∧ s.size ≤ C.size ∧ wr.heap[w.heap.size]? = some (.cells C 5 (C.size, C.size + 1)) ∧ (∀ j, j < s.size → C[j]? = some (.int .u8 (if j < k then upC (l.getD j 0) else l.getD j 0))) ∧ Below w.heap.size w wr) (fun i _ => s.size - (intOf i).toNat)
  case atStart => exact ⟨0, C0, by omega, rfl, HC0.out, HB0.out, fun j hj => by rw [if_neg (by omega)]; exact HAT0.out j hj, HB1.out⟩
  case round =>
    clear hcv
    obtain ⟨k, C, hk, rfl, hC, hB, hat, hbel⟩ := hrel
    have HAT : Hid (∀ j, j < s.size → C[j]? = some (.int .u8 (if j < k then upC (l.getD j 0) else l.getD j 0))) := hat
    have HB : Hid _ := hB
    have HC : Hid _ := hC
    have HBEL : Hid _ := hbel
    clear hat hB hC hbel
    by_cases hlt : k < s.size
    · have hlt' : (k : Int) < s.size := by omega
      have hk0 : (0 : Int) ≤ k := by omega
      obtain ⟨c, hc⟩ : ∃ c, l.getD k 0 = c := ⟨_, rfl⟩
      have hcell := HAT.out k hlt
      rw [if_neg (by omega), hc] at hcell
      have c0 : wr.cell? ⟨w.heap.size, k, none⟩ = some (.int .u8 c) := by rw [cell_of_row _ _ k _ _ _ HB.out]; exact hcell
      have f0 := frz2 k HB.out (by have := HC.out; omega)
      have hkl : k < l.length := by have := HL.out; omega
      have hcb := HBD.out c (by rw [← hc, List.getD_eq_getElem?_getD, List.getElem?_eq_getElem hkl]; exact List.getElem_mem hkl)
      obtain ⟨cb0, cb1⟩ := hcb
      have HCE : Hid (l.getD k 0 = c) := hc
      clear hc hcell hkl
      by_cases h1 : 97 ≤ c
      · by_cases h2 : c ≤ 121
        · have HUC : Hid (upC c = c + 1) := if_pos ⟨h1, by omega⟩
          have hw : IntKind.u8.wrap (c + 1) = c + 1 := by rw [IntKind.wrap_u8]; omega
          have HN : Hid _ := setc_any k (.int .u8 (c + 1)) HB.out
          go_wp2
          go_roundw
          case rel =>
            refine ⟨k + 1, C.setIfInBounds k (.int .u8 (c + 1)), by omega, by go_num, by rw [Array.size_setIfInBounds]; exact HC.out, by rw [Array.size_setIfInBounds]; exact HN.out, ?_, HBEL.out.setCell (p := ⟨w.heap.size, k, none⟩) (Nat.le_refl _) _⟩
            intro j hj
            by_cases hjk : j = k
            · subst hjk
              rw [if_pos (by omega), HCE.out, HUC.out]
              simp [Nat.lt_of_lt_of_le hj HC.out]
            · rw [Array.getElem?_setIfInBounds_ne (Ne.symm hjk), HAT.out j hj]
              by_cases hjk2 : j < k
              · rw [if_pos hjk2, if_pos (by omega)]
              · rw [if_neg hjk2, if_neg (by omega)]
          case measure => simp [intOf]; omega
        · have HUC : Hid (upC c = c) := if_neg (fun h => h2 (by omega))
          go_wp2
          go_roundw
          case rel =>
            refine ⟨k + 1, C, by omega, by go_num, HC.out, HB.out, ?_, HBEL.out⟩
            intro j hj
            rw [HAT.out j hj]
            by_cases hjk : j = k
            · subst hjk
              rw [if_neg (by omega), if_pos (by omega), HCE.out, HUC.out]
            · by_cases hjk2 : j < k
              · rw [if_pos hjk2, if_pos (by omega)]
              · rw [if_neg hjk2, if_neg (by omega)]
          case measure => simp [intOf]; omega
      · have HUC : Hid (upC c = c) := if_neg (fun h => h1 h.1)
        go_wp2
        go_roundw
        case rel =>
          refine ⟨k + 1, C, by omega, by go_num, HC.out, HB.out, ?_, HBEL.out⟩
          intro j hj
          rw [HAT.out j hj]
          by_cases hjk : j = k
          · subst hjk
            rw [if_neg (by omega), if_pos (by omega), HCE.out, HUC.out]
          · by_cases hjk2 : j < k
            · rw [if_pos hjk2, if_pos (by omega)]
            · rw [if_neg hjk2, if_neg (by omega)]
        case measure => simp [intOf]; omega
    · have hkn : k = s.size := by omega
      have hcv := HSRC.out wr (fun i hi => by
        rw [Nat.zero_add, cell_of_row _ _ i _ _ _ HB.out, HAT.out i hi, if_pos (by omega)]
        have hil : i < l.length := by rw [HL.out]; exact hi
        simp only [List.getD_eq_getElem?_getD, List.getElem?_map, List.getElem?_eq_getElem hil, Option.map_some, Option.getD_some])
      have HUP2 : Hid _ := HUP.out
      go_wp2
      go_ret
      exact ⟨by rw [HUP.out]; rfl, HBEL.out⟩
set_option maxRecDepth 100000 in
set_option maxHeartbeats 4000000 in
theorem implEndAnswer (path text : ByteArray) (w : World) (hm : text.size ≤ 4000000)
    (hit : ∀ W, Below w.heap.size w W → Calls Tryd.prog 16 #[.int .i64 (text.size : Int)] W fun e w' => e = .returned (.string (decB text.size)) ∧ Below W.heap.size W w') :
    Calls Tryd.prog 8 #[.string path, .string text] w fun e w' => e = .returned (.tuple #[.string (edAns path text).1, .string (edAns path text).2]) ∧ Below w.heap.size w w' := by
  have hup := fun w => endTextUp_any text w hm
  have hcl := fun w => clone_huge text w hm
  have hdec := hit w (Below.refl _ _)
  unfold edAns
  rw [pEcho_l, pUp_l, pLen_l]
  by_cases h1 : (path.toList == [47, 101, 99, 104, 111]) = true
  · rw [if_pos h1]
    dsimp only
    go_enter Tryd.func8, Tryd.ntmps8
    go_wp2_with (go_at_call 14; refine (hcl _).mono ?_; rintro e w1 ⟨rfl, hb⟩)
    go_ret2
    exact ⟨rfl, hb⟩
  · rw [if_neg h1]
    have h1' : (path.toList == [47, 101, 99, 104, 111]) = false := by simpa using h1
    by_cases h2 : (path.toList == [47, 117, 112]) = true
    · rw [if_pos h2]
      dsimp only
      clear h1
      go_enter Tryd.func8, Tryd.ntmps8
      go_wp2_with (go_at_call 15; refine (hup _).mono ?_; rintro e w1 ⟨rfl, hb⟩)
      go_ret2
      exact ⟨rfl, hb⟩
    · rw [if_neg h2]
      have h2' : (path.toList == [47, 117, 112]) = false := by simpa using h2
      by_cases h3 : (path.toList == [47, 108, 101, 110]) = true
      · rw [if_pos h3]
        dsimp only
        clear h1 h2
        go_enter Tryd.func8, Tryd.ntmps8
        go_wp2_with (go_at_call 16; refine hdec.mono ?_; rintro e w1 ⟨rfl, hb⟩)
        go_ret2
        exact ⟨rfl, hb⟩
      · rw [if_neg h3]
        have h3' : (path.toList == [47, 108, 101, 110]) = false := by simpa using h3
        dsimp only
        clear h1 h2 h3
        go_enter Tryd.func8, Tryd.ntmps8
        go_wp2
        go_ret2
        exact ⟨rfl, Below.refl _ _⟩
end Go.Proofs.YtghgcobnmmommaaDoor
