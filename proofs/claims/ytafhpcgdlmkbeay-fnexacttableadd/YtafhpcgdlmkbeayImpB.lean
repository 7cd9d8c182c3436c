import Derived.Test.YtafhpcgdlmkbeayImpA
import Derived.Test.YtafhpcgdlmkbeayWSgn
import Derived.Lib.ConvBytes
namespace Go.Proofs.Ytafhpcgdlmkbeay
open Go.RowKit
set_option linter.unusedVariables false

set_option maxRecDepth 100000 in
set_option maxHeartbeats 400000 in
theorem index_any (g : Nat) (c : Int) (w : World) (h0 : 0 ≤ c) (h1 : c ≤ 255) (hcell : ∀ i, i < 39 → w.cell? ⟨g, i, none⟩ = some (.int .u8 (WS.getD i 0))) :
    Calls Try.prog 64 #[.slice (some ⟨g, 0, none⟩) 39 39, .int .u8 c] w fun e w' => e = .returned (.int .i64 (sgn c)) ∧ w' = w := by
  have HC : Hid (∀ i, i < 39 → w.cell? ⟨g, i, none⟩ = some (.int .u8 (WS.getD i 0))) := hcell
  clear hcell
  go_enter Try.func64, Try.ntmps64
  go_wp2
  go_loop [8] (fun i => ∃ k : Nat, k ≤ 39 ∧ i = .int .i64 k ∧ ∀ j, j < k → WS.getD j 0 ≠ c) (fun i => 39 - (intOf i).toNat)
  case atStart => exact ⟨0, by omega, rfl, by intro j hj; omega⟩
  case round =>
    obtain ⟨k, hk, rfl, hall⟩ := hrel
    have HA : Hid (∀ j, j < k → WS.getD j 0 ≠ c) := hall
    clear hall
    by_cases hlt : k < 39
    · have hlt' : (k : Int) < 39 := by omega
      obtain ⟨x, hx⟩ : ∃ x, WS.getD k 0 = x := ⟨_, rfl⟩
      have hq := HC.out k hlt
      rw [hx] at hq
      have HX : Hid (WS.getD k 0 = x) := hx
      clear hx
      by_cases hxc : x = c
      · subst hxc
        go_wp2
        go_ret
        exact ⟨ret_int (by rw [← HX.out, sgn_at hlt]), rfl⟩
      · have hxc' : (c == x) = false := by simp; omega
        go_wp2
        go_round
        case rel =>
          refine ⟨k + 1, by omega, by go_num, ?_⟩
          intro j hj
          by_cases e : j = k
          · rw [e, HX.out]; exact hxc
          · exact HA.out j (by omega)
        case measure => simp [intOf]; omega
    · go_wp2
      go_ret
      exact ⟨ret_int (by rw [sgn_none (fun j hj => HA.out j (by omega))]), rfl⟩

set_option maxRecDepth 100000 in
set_option maxHeartbeats 400000 in
theorem contains_any (g : Nat) (c : Int) (w : World) (h0 : 0 ≤ c) (h1 : c ≤ 255) (hcell : ∀ i, i < 39 → w.cell? ⟨g, i, none⟩ = some (.int .u8 (WS.getD i 0))) :
    Calls Try.prog 61 #[.slice (some ⟨g, 0, none⟩) 39 39, .int .u8 c] w fun e w' => e = .returned (.bool (decide (0 ≤ sgn c))) ∧ w' = w := by
  have hi := index_any g c w h0 h1 hcell
  have g1 := sgn_ge c
  have g2 := sgn_lt c
  clear hcell
  go_enter Try.func61, Try.ntmps61
  go_wp2_with (go_at_call 64; refine hi.mono ?_; rintro e w' ⟨rfl, rfl⟩)
  go_ret
  exact ⟨rfl, rfl⟩

/-- '[]byte(s)'. -/
theorem conv_any (w : World) (s : ByteArray) : ∃ cap C fr w', (convert 9 76 (.string s)).run Try.prog w = .ok (.slice (some ⟨w.heap.size, 0, none⟩) s.size cap) w' ∧ Below w.heap.size w w' ∧ w.heap.size < w'.heap.size ∧
    w'.heap[w.heap.size]? = some (.cells C 5 fr) ∧ ∀ j, j < s.size → C[j]? = some (.int .u8 ((bytesL s).getD j 0)) := by
  refine ⟨_, _, _, _, Lib.run_convert_string_bytes w 9 76 5 s Try.underlying9 Try.underlying76 Try.underlying5, ⟨rfl, rfl, rfl, ?_, ?_⟩, ?_, Lib.bytesWorld_at_new w 5 s, ?_⟩
  · rw [Lib.bytesWorld_size]; omega
  · intro k hk; exact Lib.bytesWorld_at_old w _ s k hk
  · rw [Lib.bytesWorld_size]; omega
  · intro j hj
    have hc := Lib.bytesWorld_cell w 5 s j hj
    rw [cell_of_row _ _ j _ _ _ (Lib.bytesWorld_at_new w 5 s)] at hc
    rw [hc]
    have h1 : j < s.data.toList.length := by simpa using hj
    have h2 : j < (bytesL s).length := by rw [bytesL_length]; exact hj
    simp only [List.getD_eq_getElem?_getD, List.getElem?_eq_getElem h1, List.getElem?_eq_getElem h2, Option.getD_some]
    rw [← bytesL_at s j hj]
    rfl

set_option maxRecDepth 100000 in
set_option maxHeartbeats 400000 in
theorem implOk (s : ByteArray) (w : World) (hm : s.size ≤ maxLen) :
    Calls Try.prog 48 #[.string s] w fun e w' => e = .returned (.bool (wOk (bytesL s))) ∧ Below w.heap.size w w' := by
  unfold maxLen at hm
  by_cases h16 : s.size ≤ 16
  · have h16' : (s.size : Int) ≤ 16 := by omega
    go_enter Try.func48, Try.ntmps48
    go_wp2_with (first | (go_at_call 60; refine (signArray_any _).mono ?_; rintro e w1 ⟨rfl, hb1⟩; obtain ⟨cap, C2, fr2, w2, hcv, hb2, hz2, hblk2, hC2⟩ := conv_any (w1.alloc (.cells WSv 74)) s; have hcell2 : ∀ j, j < s.size → w2.cell? ⟨(w1.alloc (.cells WSv 74)).heap.size, j, none⟩ = some (.int .u8 ((bytesL s).getD j 0)) := (fun j hj => (cell_of_row _ _ j _ _ _ hblk2).trans (hC2 j hj)); clear hblk2 hC2; have HC2 : Hid (∀ j, j < s.size → w2.cell? ⟨(w1.alloc (.cells WSv 74)).heap.size, j, none⟩ = some (.int .u8 ((bytesL s).getD j 0))) := hcell2; clear hcell2; have HB2 : Hid (Below (w1.alloc (.cells WSv 74)).heap.size (w1.alloc (.cells WSv 74)) w2) := hb2; clear hb2) | (refine wpList_store_row rfl 74 _ _ rfl w1.heap.size WSv rfl rfl 74 _ (heap_alloc_last _ _) info49 rfl WSv_one ?_; rw [World.setRow_alloc_new]))
    have HS : Hid (∀ i, i < 39 → w2.cell? ⟨w1.heap.size, i, none⟩ = some (.int .u8 (WS.getD i 0))) := fun i hi => by
      rw [HB2.out.cell (p := ⟨w1.heap.size, i, none⟩) (by simp)]
      exact signs_cell _ _ _ (heap_alloc_last _ _) i hi
    have hbw : Below w.heap.size w w2 := (hb1.alloc hb1.size _).trans (HB2.out.mono (by have := hb1.size; simp; omega))
    go_loop [13] (fun i => ∃ k : Nat, k ≤ s.size ∧ i = .int .i64 k ∧ ∀ j, j < k → 0 ≤ sgn ((bytesL s).getD j 0)) (fun i => s.size - (intOf i).toNat)
    case atStart => exact ⟨0, by omega, rfl, by intro j hj; omega⟩
    case round =>
      obtain ⟨k, hk, rfl, hall⟩ := hrel
      have HA : Hid (∀ j, j < k → 0 ≤ sgn ((bytesL s).getD j 0)) := hall
      clear hall
      by_cases hlt : k < s.size
      · have hlt' : (k : Int) < s.size := by omega
        obtain ⟨x, hx⟩ : ∃ x, (bytesL s).getD k 0 = x := ⟨_, rfl⟩
        have hkl : k < (bytesL s).length := by rw [bytesL_length]; exact hlt
        have hq := HC2.out k hlt
        rw [hx] at hq
        simp at hq
        have hxb := bytesL_bd s x (by rw [← hx]; simp [List.getD, hkl])
        obtain ⟨x0, x1⟩ := hxb
        have HX : Hid ((bytesL s).getD k 0 = x) := hx
        clear hx hkl
        have g1 := sgn_ge x
        have g2 := sgn_lt x
        have hct := contains_any w1.heap.size x w2 x0 x1 HS.out
        by_cases hs : sgn x < 0
        · have hd : decide (0 ≤ sgn x) = false := by simp; omega
          rw [hd] at hct
          go_wp2_with (go_at_call 61; refine hct.mono ?_; clear hct; rintro e w' ⟨rfl, rfl⟩)
          go_ret
          exact ⟨ret_bool' (wOk_no (k := k) (by rw [bytesL_length]; exact hlt) (by rw [HX.out]; exact hs)).symm, hbw⟩
        · have hd : decide (0 ≤ sgn x) = true := by simp; omega
          rw [hd] at hct
          go_wp2_with (go_at_call 61; refine hct.mono ?_; clear hct; rintro e w' ⟨rfl, rfl⟩)
          go_round
          case rel =>
            refine ⟨k + 1, by omega, by go_num, ?_⟩
            intro j hj
            by_cases e : j = k
            · rw [e, HX.out]; omega
            · exact HA.out j (by omega)
          case measure => simp [intOf]; omega
      · go_wp2
        go_ret
        refine ⟨ret_bool' ?_, hbw⟩
        unfold wOk
        rw [wOk_take (k := k) HA.out (by rw [bytesL_length]; omega), bytesL_length]
        simp; omega
  · have h16' : (16 : Int) < s.size := by omega
    go_enter Try.func48, Try.ntmps48
    go_wp2
    go_ret
    refine ⟨ret_bool' ?_, Below.refl _ _⟩
    unfold wOk
    rw [bytesL_length, show decide (s.size ≤ 16) = false by simp; omega]
    simp
end Go.Proofs.Ytafhpcgdlmkbeay
