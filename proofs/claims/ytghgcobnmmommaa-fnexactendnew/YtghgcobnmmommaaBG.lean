import Derived.Test.YtghgcobnmmommaaProg
import Derived.Test.YtghgcobnmmommaaBA
import Derived.Lib.BufferWrite
import Derived.Deep.WholeRow
import Derived.Deep.QuietTactic
import Derived.BigQuiet
import Derived.Lib.ConvBytes
import Derived.Lib.UnsafeStr
import Derived.Laws.MakeOwn
import Derived.Laws.AppendOwn
namespace Go.Proofs.Ytghgcobnmmommaa
open Go.RowKit
set_option linter.unusedVariables false

theorem bdrew {a w : World} {B : Nat} (h : Below B a w) (n : Nat) : Below B a (w.drewN n) := by
  obtain ⟨h1, h2, h3, h4, h5⟩ := h
  exact ⟨h1, h2, h3, h4, h5⟩

theorem or_all : ∀ n : Fin 256, bits .or .i64 ((n.val : Int) * 2) 0 = 2 * n.val + 0 ∧ bits .or .i64 ((n.val : Int) * 2) 1 = 2 * n.val + 1 := by decide +kernel
theorem or_bit (num b : Int) (h0 : 0 ≤ num) (h1 : num ≤ 255) (hb : b = 0 ∨ b = 1) : bits .or .i64 (num * 2) b = 2 * num + b := by
  obtain ⟨n, rfl⟩ := Int.eq_ofNat_of_zero_le h0
  have h := or_all ⟨n, by omega⟩
  rcases hb with rfl | rfl
  · exact h.1
  · exact h.2

set_option maxRecDepth 100000 in
set_option maxHeartbeats 400000 in
theorem with_any (num bits b : Int) (w : World) (h0 : 0 ≤ num) (h1 : num ≤ 255) (hb : b = 0 ∨ b = 1) (b0 : 0 ≤ bits) (b1 : bits ≤ 8) :
    Calls Try.prog 163 #[.agg #[.int .i64 num, .int .i64 bits], .int .i64 b] w fun e w' => e = .returned (.agg #[.int .i64 (2 * num + b), .int .i64 (bits + 1)]) ∧ Below w.heap.size w w' := by
  have ho := or_bit num b h0 h1 hb
  clear hb
  go_enter Try.func163, Try.ntmps163
  go_wp2
  exact bodyPost_ret (v := .agg #[.int .i64 (2 * num + b), .int .i64 (bits + 1)]) (by simp [results, Try.results163, go_sem]) rfl ⟨rfl, ((Below.refl _ _).alloc (Nat.le_refl _) _).alloc (by simp) _⟩

/-- The signs, in memory. -/
def WSv : Array Value := #[.int .u8 101, .int .u8 116, .int .u8 97, .int .u8 111, .int .u8 105, .int .u8 110, .int .u8 115, .int .u8 114, .int .u8 104, .int .u8 108, .int .u8 48, .int .u8 49, .int .u8 50, .int .u8 51, .int .u8 52, .int .u8 53, .int .u8 54, .int .u8 55, .int .u8 56, .int .u8 57, .int .u8 100, .int .u8 99, .int .u8 117, .int .u8 109, .int .u8 102, .int .u8 112, .int .u8 103, .int .u8 119, .int .u8 121, .int .u8 98, .int .u8 118, .int .u8 107, .int .u8 120, .int .u8 106, .int .u8 113, .int .u8 122, .int .u8 58, .int .u8 47, .int .u8 45]
theorem WSv_size : WSv.size = 39 := rfl
theorem WSv_one : WSv.all (·.oneCell') = true := by kernel_rfl
theorem WSv_at (i : Nat) (h : i < 39) : WSv[i]? = some (.int .u8 (WS.getD i 0)) := by
  have e : WSv = (WS.map (Value.int .u8)).toArray := rfl
  rw [e]
  have h' : i < WS.length := by rw [WS_length]; exact h
  simp [List.getD_eq_getElem?_getD, List.getElem?_eq_getElem h']
theorem signs_cell (w : World) (g : Nat) (t : TypeId) (hg : w.heap[g]? = some (.cells WSv t (0, 0))) (i : Nat) (h : i < 39) : w.cell? ⟨g, i, none⟩ = some (.int .u8 (WS.getD i 0)) := by
  rw [cell_of_row w g i WSv t (0, 0) hg]
  exact WSv_at i h
theorem info49 : (Try.prog.info? 155).map (·.size) = some WSv.size := by kernel_rfl
theorem setRow_first (w : World) (c c' : Array Value) (t : TypeId) (o : Obj) : ((w.alloc (.cells c t)).alloc o).setRow w.heap.size c' = (w.alloc (.cells c' t)).alloc o := by
  simp only [World.setRow, World.alloc]
  congr 1
  apply Array.ext_getElem?
  intro i
  rw [Array.getElem?_modify]
  by_cases h : w.heap.size = i
  · subst h
    simp [Array.getElem?_push]
  · have h' : ¬ i = w.heap.size := fun e => h e.symm
    simp [h, h', Array.getElem?_push]
theorem heap_first (w : World) (o o' : Obj) : ((w.alloc o).alloc o').heap[w.heap.size]? = some o := by
  show ((w.heap.push o).push o')[w.heap.size]? = some o
  simp [Array.getElem?_push]
theorem copy_signs (w : World) (o : Obj) (cur : Array Value) (t : TypeId) (hc : cur.size = 39) :
    (Builtin.copy_ #[22, 9] 3 #[.slice (some ⟨w.heap.size + 1, 0, none⟩) 39 39, .string ⟨#[101, 116, 97, 111, 105, 110, 115, 114, 104, 108, 48, 49, 50, 51, 52, 53, 54, 55, 56, 57, 100, 99, 117, 109, 102, 112, 103, 119, 121, 98, 118, 107, 120, 106, 113, 122, 58, 47, 45]⟩]).run Try.prog ((w.alloc o).alloc (.cells cur t)) = .ok (.int .i64 39) ((w.alloc o).alloc (.cells WSv t)) := by
  have hs : w.heap.size + 1 = (w.alloc o).heap.size := by simp
  rw [hs, Lib.run_copy_row_string ((w.alloc o).alloc (.cells cur t)) 22 9 3 5 (w.alloc o).heap.size 0 39 39 _ cur t Try.underlying22 (by kernel_rfl) (heap_alloc_last (w.alloc o) _) (by decide) (by rw [hc]; decide)]
  rw [World.setRow_alloc_new]
  have e : (cur.toList.take 0 ++ Lib.byteCells (⟨#[101, 116, 97, 111, 105, 110, 115, 114, 104, 108, 48, 49, 50, 51, 52, 53, 54, 55, 56, 57, 100, 99, 117, 109, 102, 112, 103, 119, 121, 98, 118, 107, 120, 106, 113, 122, 58, 47, 45]⟩ : ByteArray).data.toList ++ cur.toList.drop (0 + 39)).toArray = WSv := by
    rw [List.drop_eq_nil_of_le (by simp [hc])]
    rfl
  rw [show (⟨#[101, 116, 97, 111, 105, 110, 115, 114, 104, 108, 48, 49, 50, 51, 52, 53, 54, 55, 56, 57, 100, 99, 117, 109, 102, 112, 103, 119, 121, 98, 118, 107, 120, 106, 113, 122, 58, 47, 45]⟩ : ByteArray).size = 39 from rfl, e]
  rfl
theorem setRow_below {B : Nat} {a w : World} (h : Below B a w) (g : Nat) (cs : Array Value) (hg : B ≤ g) : Below B a (w.setRow g cs) := by
  obtain ⟨h1, h2, h3, h4, h5⟩ := h
  refine ⟨h1, h2, h3, by simpa [World.setRow] using h4, fun k hk => ?_⟩
  rw [← h5 k hk]
  show (w.heap.modify g _)[k]? = _
  rw [Array.getElem?_modify, if_neg (by omega)]
set_option maxRecDepth 100000 in
set_option maxHeartbeats 1000000 in
set_option maxRecDepth 100000 in
theorem signArray_any (w : World) :
    Calls Try.prog 114 #[] w fun e w' => e = .returned (.agg WSv) ∧ Below w.heap.size w w' := by
  have hcp := copy_signs w
  go_enter Try.func114, Try.ntmps114
  go_wp2_with (first | (refine wpList_load_row rfl 155 _ rfl (w.heap.size + 1) rfl 155 WSv (0, 0) _ (by have := heap_alloc_last (w.alloc (.cells #[.int .u8 0, .int .u8 0, .int .u8 0, .int .u8 0, .int .u8 0, .int .u8 0, .int .u8 0, .int .u8 0, .int .u8 0, .int .u8 0, .int .u8 0, .int .u8 0, .int .u8 0, .int .u8 0, .int .u8 0, .int .u8 0, .int .u8 0, .int .u8 0, .int .u8 0, .int .u8 0, .int .u8 0, .int .u8 0, .int .u8 0, .int .u8 0, .int .u8 0, .int .u8 0, .int .u8 0, .int .u8 0, .int .u8 0, .int .u8 0, .int .u8 0, .int .u8 0, .int .u8 0, .int .u8 0, .int .u8 0, .int .u8 0, .int .u8 0, .int .u8 0, .int .u8 0] 155)) (.cells WSv 155); simpa using this) Try.underlying155 rfl info49 ?_) | (refine wpList_store_row rfl 155 _ _ rfl w.heap.size WSv rfl rfl 155 _ (heap_first w _ _) info49 rfl WSv_one ?_))
  refine bodyPost_ret (results_cell_row rfl _ _ w.heap.size 155 WSv (0, 0) _ rfl (setRow_heap _ _ _ _ _ _ (heap_first w _ _)) Try.underlying155 rfl info49) rfl ⟨rfl, setRow_below (((Below.refl _ _).alloc (Nat.le_refl _) _).alloc (by simp) _) _ _ (Nat.le_refl _)⟩
end Go.Proofs.Ytghgcobnmmommaa

namespace Go.Proofs.Ytghgcobnmmommaa
open Go.RowKit
set_option linter.unusedVariables false

set_option maxRecDepth 100000 in
set_option maxHeartbeats 400000 in
theorem index_any (g : Nat) (c : Int) (w : World) (h0 : 0 ≤ c) (h1 : c ≤ 255) (hcell : ∀ i, i < 39 → w.cell? ⟨g, i, none⟩ = some (.int .u8 (WS.getD i 0))) :
    Calls Try.prog 131 #[.slice (some ⟨g, 0, none⟩) 39 39, .int .u8 c] w fun e w' => e = .returned (.int .i64 (sgn c)) ∧ w' = w := by
  have HC : Hid (∀ i, i < 39 → w.cell? ⟨g, i, none⟩ = some (.int .u8 (WS.getD i 0))) := hcell
  clear hcell
  go_enter Try.func131, Try.ntmps131
  go_wp2
  go_loop [8] (fun i => ∃ k : Nat, k ≤ 39 ∧ i = .int .i64 k ∧ ∀ j, j < k → WS.getD j 0 ≠ c) (fun i => 39 - (intOf i).toNat)
  case atStart => exact ⟨0, by omega, rfl, by intro j hj; omega⟩
  case round =>
    obtain ⟨k, hk, rfl, hall⟩ := hrel
    have HA : Hid (∀ j, j < k → WS.getD j 0 ≠ c) := hall
    clear hall
    by_cases hlt : k < 39
    · have hlt' : (k : Int) < 39 := by omega
      obtain ⟨x, hx⟩ : ∃ x, WS.getD k 0 = x := ⟨_, rfl⟩
      have hq := HC.out k hlt
      rw [hx] at hq
      have HX : Hid (WS.getD k 0 = x) := hx
      clear hx
      by_cases hxc : x = c
      · subst hxc
        go_wp2
        go_ret
        exact ⟨ret_int (by rw [← HX.out, sgn_at hlt]), rfl⟩
      · have hxc' : (c == x) = false := by simp; omega
        go_wp2
        go_round
        case rel =>
          refine ⟨k + 1, by omega, by go_num, ?_⟩
          intro j hj
          by_cases e : j = k
          · rw [e, HX.out]; exact hxc
          · exact HA.out j (by omega)
        case measure => simp [intOf]; omega
    · go_wp2
      go_ret
      exact ⟨ret_int (by rw [sgn_none (fun j hj => HA.out j (by omega))]), rfl⟩

set_option maxRecDepth 100000 in
set_option maxHeartbeats 400000 in
theorem contains_any (g : Nat) (c : Int) (w : World) (h0 : 0 ≤ c) (h1 : c ≤ 255) (hcell : ∀ i, i < 39 → w.cell? ⟨g, i, none⟩ = some (.int .u8 (WS.getD i 0))) :
    Calls Try.prog 115 #[.slice (some ⟨g, 0, none⟩) 39 39, .int .u8 c] w fun e w' => e = .returned (.bool (decide (0 ≤ sgn c))) ∧ w' = w := by
  have hi := index_any g c w h0 h1 hcell
  have g1 := sgn_ge c
  have g2 := sgn_lt c
  clear hcell
  go_enter Try.func115, Try.ntmps115
  go_wp2_with (go_at_call 131; refine hi.mono ?_; rintro e w' ⟨rfl, rfl⟩)
  go_ret
  exact ⟨rfl, rfl⟩

/-- '[]byte(s)'. -/
theorem conv_any (w : World) (s : ByteArray) : ∃ cap C fr w', (convert 9 22 (.string s)).run Try.prog w = .ok (.slice (some ⟨w.heap.size, 0, none⟩) s.size cap) w' ∧ Below w.heap.size w w' ∧ w.heap.size < w'.heap.size ∧
    w'.heap[w.heap.size]? = some (.cells C 5 fr) ∧ ∀ j, j < s.size → C[j]? = some (.int .u8 ((bytesL s).getD j 0)) := by
  refine ⟨_, _, _, _, Lib.run_convert_string_bytes w 9 22 5 s Try.underlying9 Try.underlying22 Try.underlying5, ⟨rfl, rfl, rfl, ?_, ?_⟩, ?_, Lib.bytesWorld_at_new w 5 s, ?_⟩
  · rw [Lib.bytesWorld_size]; omega
  · intro k hk; exact Lib.bytesWorld_at_old w _ s k hk
  · rw [Lib.bytesWorld_size]; omega
  · intro j hj
    have hc := Lib.bytesWorld_cell w 5 s j hj
    rw [cell_of_row _ _ j _ _ _ (Lib.bytesWorld_at_new w 5 s)] at hc
    rw [hc]
    have h1 : j < s.data.toList.length := by simpa using hj
    have h2 : j < (bytesL s).length := by rw [bytesL_length]; exact hj
    simp only [List.getD_eq_getElem?_getD, List.getElem?_eq_getElem h1, List.getElem?_eq_getElem h2, Option.getD_some]
    rw [← bytesL_at s j hj]
    rfl

set_option maxRecDepth 100000 in
set_option maxHeartbeats 400000 in
theorem implOk (s : ByteArray) (w : World) (hm : s.size ≤ maxLen) :
    Calls Try.prog 101 #[.string s] w fun e w' => e = .returned (.bool (wOk (bytesL s))) ∧ Below w.heap.size w w' := by
  unfold maxLen at hm
  by_cases h16 : s.size ≤ 16
  · have h16' : (s.size : Int) ≤ 16 := by omega
    go_enter Try.func101, Try.ntmps101
    go_wp2_with (first | (go_at_call 114; refine (signArray_any _).mono ?_; rintro e w1 ⟨rfl, hb1⟩; obtain ⟨cap, C2, fr2, w2, hcv, hb2, hz2, hblk2, hC2⟩ := conv_any (w1.alloc (.cells WSv 155)) s; have hcell2 : ∀ j, j < s.size → w2.cell? ⟨(w1.alloc (.cells WSv 155)).heap.size, j, none⟩ = some (.int .u8 ((bytesL s).getD j 0)) := (fun j hj => (cell_of_row _ _ j _ _ _ hblk2).trans (hC2 j hj)); clear hblk2 hC2; have HC2 : Hid (∀ j, j < s.size → w2.cell? ⟨(w1.alloc (.cells WSv 155)).heap.size, j, none⟩ = some (.int .u8 ((bytesL s).getD j 0))) := hcell2; clear hcell2; have HB2 : Hid (Below (w1.alloc (.cells WSv 155)).heap.size (w1.alloc (.cells WSv 155)) w2) := hb2; clear hb2) | (refine wpList_store_row rfl 155 _ _ rfl w1.heap.size WSv rfl rfl 155 _ (heap_alloc_last _ _) info49 rfl WSv_one ?_; rw [World.setRow_alloc_new]))
    have HS : Hid (∀ i, i < 39 → w2.cell? ⟨w1.heap.size, i, none⟩ = some (.int .u8 (WS.getD i 0))) := fun i hi => by
      rw [HB2.out.cell (p := ⟨w1.heap.size, i, none⟩) (by simp)]
      exact signs_cell _ _ _ (heap_alloc_last _ _) i hi
    have hbw : Below w.heap.size w w2 := (hb1.alloc hb1.size _).trans (HB2.out.mono (by have := hb1.size; simp; omega))
    go_loop [13] (fun i => ∃ k : Nat, k ≤ s.size ∧ i = .int .i64 k ∧ ∀ j, j < k → 0 ≤ sgn ((bytesL s).getD j 0)) (fun i => s.size - (intOf i).toNat)
    case atStart => exact ⟨0, by omega, rfl, by intro j hj; omega⟩
    case round =>
      obtain ⟨k, hk, rfl, hall⟩ := hrel
      have HA : Hid (∀ j, j < k → 0 ≤ sgn ((bytesL s).getD j 0)) := hall
      clear hall
      by_cases hlt : k < s.size
      · have hlt' : (k : Int) < s.size := by omega
        obtain ⟨x, hx⟩ : ∃ x, (bytesL s).getD k 0 = x := ⟨_, rfl⟩
        have hkl : k < (bytesL s).length := by rw [bytesL_length]; exact hlt
        have hq := HC2.out k hlt
        rw [hx] at hq
        simp at hq
        have hxb := bytesL_bd s x (by rw [← hx]; simp [List.getD, hkl])
        obtain ⟨x0, x1⟩ := hxb
        have HX : Hid ((bytesL s).getD k 0 = x) := hx
        clear hx hkl
        have g1 := sgn_ge x
        have g2 := sgn_lt x
        have hct := contains_any w1.heap.size x w2 x0 x1 HS.out
        by_cases hs : sgn x < 0
        · have hd : decide (0 ≤ sgn x) = false := by simp; omega
          rw [hd] at hct
          go_wp2_with (go_at_call 115; refine hct.mono ?_; clear hct; rintro e w' ⟨rfl, rfl⟩)
          go_ret
          exact ⟨ret_bool' (wOk_no (k := k) (by rw [bytesL_length]; exact hlt) (by rw [HX.out]; exact hs)).symm, hbw⟩
        · have hd : decide (0 ≤ sgn x) = true := by simp; omega
          rw [hd] at hct
          go_wp2_with (go_at_call 115; refine hct.mono ?_; clear hct; rintro e w' ⟨rfl, rfl⟩)
          go_round
          case rel =>
            refine ⟨k + 1, by omega, by go_num, ?_⟩
            intro j hj
            by_cases e : j = k
            · rw [e, HX.out]; omega
            · exact HA.out j (by omega)
          case measure => simp [intOf]; omega
      · go_wp2
        go_ret
        refine ⟨ret_bool' ?_, hbw⟩
        unfold wOk
        rw [wOk_take (k := k) HA.out (by rw [bytesL_length]; omega), bytesL_length]
        simp; omega
  · have h16' : (16 : Int) < s.size := by omega
    go_enter Try.func101, Try.ntmps101
    go_wp2
    go_ret
    refine ⟨ret_bool' ?_, Below.refl _ _⟩
    unfold wOk
    rw [bytesL_length, show decide (s.size ≤ 16) = false by simp; omega]
    simp
end Go.Proofs.Ytghgcobnmmommaa

namespace Go.Proofs.Ytghgcobnmmommaa
open Go.RowKit
set_option linter.unusedVariables false

theorem info5v : (Try.prog.info? 5).map (fun i => (i.zero, i.size, i.bytes)) = some (some (.int .u8 0), 1, 1) := by kernel_rfl
set_option maxRecDepth 100000 in
set_option maxHeartbeats 400000 in
theorem cloneL_huge (s : ByteArray) (w : World) (hz : s.size ≤ 4000000) :
    Calls Try.prog 93 #[.string s] w fun e w' => e = .returned (.string s) ∧ Below w.heap.size w w' := by
  by_cases h0 : s.size = 0
  · have hs : s = ⟨#[]⟩ := ByteArray.ext (Array.eq_empty_of_size_eq_zero h0)
    subst hs
    go_enter Try.func93, Try.ntmps93
    go_wp2
    go_ret
    exact ⟨rfl, Below.refl _ _⟩
  · obtain ⟨i5, hi5, h50, h51, h52⟩ := info_parts info5v
    have hco : Try.prog.cellsOf 5 = 1 := by simp [Program.cellsOf, hi5, h51]
    have hmk := run_make (P := Try.prog) w 22 5 i5 (.int .u8 0) Try.underlying22 hi5 h50 .i64 .i64 (s.size : Int) (s.size : Int) (by omega) (by omega) (by rw [h52]; omega) (by omega)
    obtain ⟨M, hM⟩ : ∃ M, madeCells (Value.int .u8 0).cells (((s.size : Nat) : Int).toNat * i5.size) = M := ⟨_, rfl⟩
    have hMs : M.size = s.size := by rw [← hM, size_madeCells, h51]; simp
    rw [hM, Int.toNat_natCast] at hmk
    have hcp := Lib.run_copy_row_string (P := Try.prog) (w.alloc (.cells M 5)) 22 9 3 5 w.heap.size 0 s.size s.size s M 5 Try.underlying22 (by kernel_rfl) (heap_alloc_last w _) (Nat.le_refl _) (by omega)
    rw [World.setRow_alloc_new] at hcp
    obtain ⟨Y, hY⟩ : ∃ Y, (M.toList.take 0 ++ Lib.byteCells s.data.toList ++ M.toList.drop (0 + s.size)).toArray = Y := ⟨_, rfl⟩
    rw [hY] at hcp
    have hYl : Y.toList = Lib.byteCells s.data.toList := by
      rw [← hY, List.toList_toArray, List.take_zero, List.nil_append, List.drop_of_length_le (by rw [Array.length_toList]; omega), List.append_nil]
    have hds : s.data.toList.length = s.size := by simp
    have hYs : Y.size = s.size := by rw [← Array.length_toList, hYl, Lib.byteCells_length, hds]
    have hne : s.data.toList ≠ [] := fun e => h0 (by rw [← hds, e]; rfl)
    have hus := Lib.run_unsafeString_row (P := Try.prog) (w.alloc (.cells Y 5)) 147 3 9 5 Try.underlying147 hco w.heap.size Y.size (by unfold World.shape?; rw [heap_alloc_last]) s.data.toList hne (by rw [hds]; omega) (by rw [hds]; omega)
      (fun j x hx => by
        rw [Addr.add_lit, Nat.zero_add, cell_of_row _ _ j Y 5 (0, 0) (heap_alloc_last w _), ← Array.getElem?_toList, hYl]
        simp [Lib.byteCells, hx])
    rw [hds] at hus
    have hpos : (0 : Int) < s.size := by omega
    have hnz : ¬ (s.size : Int) = 0 := by omega
    have HYL : Hid (Y.toList = Lib.byteCells s.data.toList) := hYl
    clear hY hM hYl hds
    go_enter Try.func93, Try.ntmps93
    go_wp2
    go_ret
    exact ⟨rfl, Lib.below_freeze ((Below.refl _ _).alloc (Nat.le_refl _) _) (p := ⟨w.heap.size, 0, none⟩) (Nat.le_refl _) _⟩
set_option maxRecDepth 100000 in
set_option maxHeartbeats 400000 in
theorem clone_huge (s : ByteArray) (w : World) (hz : s.size ≤ 4000000) :
    Calls Try.prog 58 #[.string s] w fun e w' => e = .returned (.string s) ∧ Below w.heap.size w w' := by
  go_enter Try.func58, Try.ntmps58
  go_wp2_with (go_at_call 93; refine (cloneL_huge _ _ hz).mono ?_; rintro e w1 ⟨rfl, hb1⟩)
  go_ret
  exact ⟨rfl, hb1⟩
theorem clone_big (s : ByteArray) (w : World) (hz : s.size ≤ 1000) :
    Calls Try.prog 58 #[.string s] w fun e w' => e = .returned (.string s) ∧ Below w.heap.size w w' := clone_huge s w (by omega)
theorem clone_any (s : ByteArray) (w : World) (hz : s.size ≤ 16) :
    Calls Try.prog 58 #[.string s] w fun e w' => e = .returned (.string s) ∧ Below w.heap.size w w' := clone_big s w (by omega)
end Go.Proofs.Ytghgcobnmmommaa

namespace Go.Proofs.Ytghgcobnmmommaa
open Go.RowKit
set_option linter.unusedVariables false

theorem infoC : (Try.prog.info? 204).map (fun i => (i.zero, i.size, i.bytes)) = some (some (.agg #[.int .i64 0, .int .i64 0]), 2, 16) := by kernel_rfl
/-- Codes, in memory. -/
def cellsC (cs : List (Int × Int)) : List Value := cs.flatMap fun c => [Value.int .i64 c.1, Value.int .i64 c.2]
theorem cellsC_snoc (cs : List (Int × Int)) (a b : Int) : cellsC (cs ++ [(a, b)]) = cellsC cs ++ [Value.int .i64 a, Value.int .i64 b] := by simp [cellsC]
theorem cellsC_cons (c : Int × Int) (cs : List (Int × Int)) : cellsC (c :: cs) = Value.int .i64 c.1 :: Value.int .i64 c.2 :: cellsC cs := by simp [cellsC]
theorem cellsC_length (cs : List (Int × Int)) : (cellsC cs).length = 2 * cs.length := by
  induction cs with
  | nil => rfl
  | cons c t ih => rw [cellsC_cons, List.length_cons, List.length_cons, ih, List.length_cons]; omega
theorem cellsC_at (cs : List (Int × Int)) (k : Nat) (h : k < cs.length) : (cellsC cs)[2 * k]? = some (.int .i64 cs[k].1) ∧ (cellsC cs)[2 * k + 1]? = some (.int .i64 cs[k].2) := by
  induction cs generalizing k with
  | nil => simp at h
  | cons c t ih =>
    cases k with
    | zero => simp [cellsC_cons]
    | succ k =>
      have := ih k (by simpa using h)
      rw [cellsC_cons, show 2 * (k + 1) = 2 * k + 1 + 1 by omega]
      simpa using this
/-- The code of a sign. -/
def codeOf (c : Int) : Int × Int := if sgn c < 24 then (sgn c, 5) else (96 + sgn c - 24, 7)
theorem not_row {W : World} {B : Nat} {t e : TypeId} {C : Array Value} {fr : Nat × Nat} (h : W.heap[B]? = some (.cells C t fr)) (hte : t ≠ e) {base size k : Nat} {v : Value} {xs : List Value} (hr : W.ownsRow base e size v k xs) : some B ≠ v.ownBlock := by
  rcases hr.2 with ⟨rfl, _⟩ | ⟨g, cap, cur, rfl, _, hgb, _⟩
  · simp [Value.ownBlock]
  · intro e'
    obtain rfl : B = g := by simpa [Value.ownBlock] using e'
    have := h.symm.trans hgb
    simp at this
    exact hte this.2.1
theorem blk_lt {W : World} {B : Nat} {o : Obj} (h : W.heap[B]? = some o) : B < W.heap.size := (Array.getElem?_eq_some_iff.1 h).1
theorem blk_alloc {W : World} {B : Nat} {o : Obj} (h : W.heap[B]? = some o) (o' : Obj) : (W.alloc o').heap[B]? = some o := by
  have := blk_lt h
  show (W.heap.push o')[B]? = _
  rw [Array.getElem?_push, if_neg (by omega)]
  exact h
theorem kept_app {W w3 : World} {tmp : Obj} {B : Nat} {t e : TypeId} {C : Array Value} {fr : Nat × Nat} (h : W.heap[B]? = some (.cells C t fr)) (hte : t ≠ e) {base size k : Nat} {v : Value} {xs : List Value} (hr : W.ownsRow base e size v k xs) (hgrow : (W.alloc tmp).grownBy w3 v.ownBlock) : w3.heap[B]? = some (.cells C t fr) :=
  (hgrow.block B (blk_lt (blk_alloc h tmp)) (not_row h hte hr)).trans (blk_alloc h tmp)
theorem own_zero2 (w : World) (e : TypeId) : (w.alloc (.cells #[] e)).ownsRow w.heap.size e 2 (.slice (some ⟨w.heap.size, 0, none⟩) 0 0) 0 [] :=
  ⟨rfl, .inr ⟨w.heap.size, 0, #[], rfl, Nat.le_refl _, by show (w.heap.push _)[w.heap.size]? = _; simp, Nat.le_refl _, by decide, rfl, rfl⟩⟩
theorem own_base {w : World} {b b' : Nat} {e : TypeId} {size : Nat} {v : Value} {n : Nat} {xs : List Value} (h : w.ownsRow b e size v n xs) (hb : b' ≤ b) : w.ownsRow b' e size v n xs := by
  refine ⟨h.1, ?_⟩
  rcases h.2 with h0 | ⟨g, cap, cur, h1, h2, h3⟩
  · exact .inl h0
  · exact .inr ⟨g, cap, cur, h1, Nat.le_trans hb h2, h3⟩
theorem own_below' {w w' : World} {base : Nat} {e : TypeId} {size : Nat} {v : Value} {n : Nat} {xs : List Value} (h : w.ownsRow base e size v n xs) (hb : Below w.heap.size w w') : w'.ownsRow base e size v n xs := by
  refine ⟨h.1, ?_⟩
  rcases h.2 with h0 | ⟨g, cap, cur, h1, h2, h3, h4⟩
  · exact .inl h0
  · exact .inr ⟨g, cap, cur, h1, h2, by rw [hb.block g (blk_lt h3)]; exact h3, h4⟩
theorem cell_two (w : World) (x y : Value) (e : TypeId) : ∀ j u, [x, y][j]? = some u → (w.alloc (.cells #[x, y] e)).cell? ((⟨w.heap.size, 0, none⟩ : Addr).add j) = some u := by
  intro j u hj
  rw [Addr.add_lit]
  match j, hj with
  | 0, hj => simp at hj; subst hj; simp
  | 1, hj => simp at hj; subst hj; simp
theorem two_cell (a b : Int) : ∀ u ∈ [Value.int .i64 a, Value.int .i64 b], u.oneCell' = true := by
  intro u hu; simp at hu; rcases hu with rfl | rfl <;> rfl

theorem two_all (a b : Int) : (#[.int .i64 a, .int .i64 b] : Array Value).all (·.oneCell') = true := by simp [Value.oneCell']

set_option maxRecDepth 100000 in
set_option maxHeartbeats 1000000 in
theorem wordCodes_any (s : ByteArray) (w : World) (hz : s.size ≤ 16) (hok : ∀ c ∈ bytesL s, 0 ≤ sgn c) :
    Calls Try.prog 160 #[.string s] w fun e w' => ∃ v, e = .returned v ∧ w'.ownsRow w.heap.size 204 2 v s.size (cellsC ((bytesL s).map codeOf)) ∧ Below w.heap.size w w' := by
  obtain ⟨ii, hi, hz0, hz1, hz2⟩ := info_parts infoC
  have HOK : Hid (∀ c ∈ bytesL s, 0 ≤ sgn c) := hok
  clear hok
  go_enter Try.func160, Try.ntmps160
  go_wp2_with (first | (go_at_call 114; refine (signArray_any _).mono ?_; rintro e w1 ⟨rfl, hb1⟩; obtain ⟨cap, C2, fr2, w2, hcv, hb2, hz2', hblk2, hC2⟩ := conv_any ((w1.alloc (.cells WSv 155)).alloc (.cells #[] 204)) s; have HC2 : Hid (∀ j, j < s.size → C2[j]? = some (.int .u8 ((bytesL s).getD j 0))) := hC2; have HBK : Hid (w2.heap[((w1.alloc (.cells WSv 155)).alloc (.cells #[] 204)).heap.size]? = some (.cells C2 5 fr2)) := hblk2;  clear hC2 hblk2; have HB2 : Hid (Below ((w1.alloc (.cells WSv 155)).alloc (.cells #[] 204)).heap.size ((w1.alloc (.cells WSv 155)).alloc (.cells #[] 204)) w2) := hb2; clear hb2) | (refine wpList_store_row rfl 155 _ _ rfl w1.heap.size WSv rfl rfl 155 _ (heap_alloc_last _ _) info49 rfl WSv_one ?_; rw [World.setRow_alloc_new]))
  have hbw : Below w.heap.size w w2 := ((hb1.alloc hb1.size _).alloc (by have := hb1.size; simp; omega) _).trans (HB2.out.mono (by have := hb1.size; simp; omega))
  have h1 : Hid (w2.heap[w1.heap.size]? = some (.cells WSv 155 (0, 0))) := by
    show w2.heap[w1.heap.size]? = some (.cells WSv 155 (0, 0))
    rw [HB2.out.block w1.heap.size (by simp; omega)]; exact heap_first _ _ _
  have h2 : Hid (w2.heap[w1.heap.size + 1 + 1]? = some (.cells C2 5 fr2)) := by
    have h := HBK.out
    simp only [World.size_alloc] at h
    exact h
  have h3 : Hid (w2.ownsRow w.heap.size 204 2 (.slice (some ⟨w1.heap.size + 1, 0, none⟩) 0 0) 0 []) := by
    have h := own_below' (own_zero2 (w1.alloc (.cells WSv 155)) 204) HB2.out
    have h := own_base h (b' := w.heap.size) (by have := hb1.size; simp; omega)
    simp only [World.size_alloc] at h
    exact h
  clear hcv hz2' HB2 HBK
  obtain ⟨G, hG⟩ : ∃ G, w1.heap.size = G := ⟨_, rfl⟩
  rw [hG] at h1 h2 h3 ⊢
  clear hG
  go_loopw [4, 13] (fun v i wr => ∃ k : Nat, k ≤ s.size ∧ i = .int .i64 k ∧ wr.ownsRow w.heap.size 204 2 v k (cellsC (((bytesL s).take k).map codeOf)) ∧ wr.heap[G]? = some (.cells WSv 155 (0, 0)) ∧ wr.heap[G + 1 + 1]? = some (.cells C2 5 fr2) ∧ Below w.heap.size w wr) (fun _ i _ => s.size - (intOf i).toNat)
  case atStart => exact ⟨0, by omega, rfl, h3.out, h1.out, h2.out, hbw⟩
  case round =>
    clear h1 h2 h3 hbw
    obtain ⟨k, hk, rfl, hown, hg1, hg2, hbel⟩ := hrel
    have HG1 : Hid (wr.heap[G]? = some (.cells WSv 155 (0, 0))) := hg1
    have HG2 : Hid (wr.heap[G + 1 + 1]? = some (.cells C2 5 fr2)) := hg2
    clear hg1 hg2
    by_cases hlt : k < s.size
    · have hlt' : (k : Int) < s.size := by omega
      have hkl : k < (bytesL s).length := by rw [bytesL_length]; exact hlt
      obtain ⟨x, hx⟩ : ∃ x, (bytesL s).getD k 0 = x := ⟨_, rfl⟩
      have hx' : (bytesL s)[k] = x := by rw [← hx]; simp [List.getD, hkl]
      have hmem : x ∈ bytesL s := by rw [← hx']; exact List.getElem_mem hkl
      obtain ⟨x0, x1⟩ := bytesL_bd s x hmem
      have g1 := HOK.out x hmem
      have g2 := sgn_lt x
      have hq : wr.cell? ⟨G + 1 + 1, k, none⟩ = some (.int .u8 x) := by
        rw [cell_of_row _ _ k _ _ _ HG2.out, HC2.out k hlt, hx]
      have HS : Hid (((bytesL s).take (k + 1)).map codeOf = ((bytesL s).take k).map codeOf ++ [codeOf x]) := by
        show ((bytesL s).take (k + 1)).map codeOf = ((bytesL s).take k).map codeOf ++ [codeOf x]
        rw [List.take_succ_eq_append_getElem hkl, hx']; simp
      clear hx hx' hmem hkl
      have hix := index_any G x wr x0 x1 (signs_cell _ _ _ HG1.out)
      by_cases h24 : sgn x < 24
      · skip
        go_wp2_with (first | (go_at_call 131; refine hix.mono ?_; clear hix; rintro e wq ⟨rfl, rfl⟩) | (at_builtin; refine wpList_append_own _ rfl _ _ 201 rfl w.heap.size 204 ii (.agg #[.int .i64 0, .int .i64 0]) 2 16 Try.underlying201 hi hz0 hz1 hz2 rfl (by decide) _ _ _ rfl (hown.alloc _) ⟨wq.heap.size, 0, none⟩ 1 1 [.int .i64 (sgn x), .int .i64 5] rfl rfl (cell_two _ _ _ _) (two_cell _ _) (by unfold maxLen; omega) (by omega) (by have := hbel.size; simp; omega) ?_; intro v' w3 hown' hgrow _))
        go_roundw
        case rel =>
          refine ⟨k + 1, by omega, by go_num, ?_, ?_, ?_, ?_⟩
          · rw [HS.out, show codeOf x = (sgn x, 5) by unfold codeOf; rw [if_pos (by omega)], cellsC_snoc]; exact hown'
          · exact kept_app HG1.out (by decide) hown hgrow
          · exact kept_app HG2.out (by decide) hown hgrow
          · exact Below.grown (Below.alloc hbel hbel.size _) hgrow (by have := hbel.size; simp; omega) (fun q hq => (hown.lt q hq).1)
        case measure => simp [intOf]; omega
      · skip
        go_wp2_with (first | (go_at_call 131; refine hix.mono ?_; clear hix; rintro e wq ⟨rfl, rfl⟩) | (at_builtin; refine wpList_append_own _ rfl _ _ 201 rfl w.heap.size 204 ii (.agg #[.int .i64 0, .int .i64 0]) 2 16 Try.underlying201 hi hz0 hz1 hz2 rfl (by decide) _ _ _ rfl (hown.alloc _) ⟨wq.heap.size, 0, none⟩ 1 1 [.int .i64 (96 + sgn x - 24), .int .i64 7] rfl rfl (cell_two _ _ _ _) (two_cell _ _) (by unfold maxLen; omega) (by omega) (by have := hbel.size; simp; omega) ?_; intro v' w3 hown' hgrow _))
        go_roundw
        case rel =>
          refine ⟨k + 1, by omega, by go_num, ?_, ?_, ?_, ?_⟩
          · rw [HS.out, show codeOf x = (96 + sgn x - 24, 7) by unfold codeOf; rw [if_neg (by omega)], cellsC_snoc]; exact hown'
          · exact kept_app HG1.out (by decide) hown hgrow
          · exact kept_app HG2.out (by decide) hown hgrow
          · exact Below.grown (Below.alloc hbel hbel.size _) hgrow (by have := hbel.size; simp; omega) (fun q hq => (hown.lt q hq).1)
        case measure => simp [intOf]; omega
    · have hks : k = s.size := by omega
      have hall : (bytesL s).take k = bytesL s := List.take_of_length_le (by rw [bytesL_length]; omega)
      rw [hall, hks] at hown
      clear hall
      go_wp2
      go_ret
      exact ⟨_, rfl, hown, hbel⟩


end Go.Proofs.Ytghgcobnmmommaa

namespace Go.Proofs.Ytghgcobnmmommaa
open Go.RowKit
set_option linter.unusedVariables false

/-- How many bits codes have. -/
def sumB : List (Int × Int) → Int
  | [] => 0
  | c :: t => c.2 + sumB t
theorem sumB_snoc (cs : List (Int × Int)) (c : Int × Int) : sumB (cs ++ [c]) = sumB cs + c.2 := by
  induction cs with
  | nil => simp [sumB]
  | cons a t ih => simp only [List.cons_append, sumB, ih]; omega
theorem sumB_bd (cs : List (Int × Int)) (h : ∀ c ∈ cs, 0 ≤ c.2 ∧ c.2 ≤ 8) : 0 ≤ sumB cs ∧ sumB cs ≤ 8 * cs.length := by
  induction cs with
  | nil => simp [sumB]
  | cons a t ih =>
    have h1 := h a (by simp)
    have h2 := ih (fun c hc => h c (by simp [hc]))
    simp only [sumB, List.length_cons]
    omega
set_option maxRecDepth 100000 in
set_option maxHeartbeats 400000 in
theorem numTop_small (f : Int) (w : World) (h0 : 0 ≤ f) (h1 : f ≤ 7) :
    Calls Try.prog 158 #[.int .i64 f] w fun e w' => e = .returned (.int .i64 (pw f - 1)) ∧ w' = w := by
  rcases (by omega : f = 0 ∨ f = 1 ∨ f = 2 ∨ f = 3 ∨ f = 4 ∨ f = 5 ∨ f = 6 ∨ f = 7) with rfl | rfl | rfl | rfl | rfl | rfl | rfl | rfl
  all_goals
    go_enter Try.func158, Try.ntmps158
    go_wp2
    go_ret
    exact ⟨rfl, rfl⟩

set_option maxRecDepth 100000 in
set_option maxHeartbeats 1000000 in
theorem wordFill_any (cs : List (Int × Int)) (a : Option Addr) (n cap base : Nat) (w : World) (hn : cs.length = n) (hn16 : n ≤ 16) (hbd : ∀ c ∈ cs, 0 ≤ c.2 ∧ c.2 ≤ 8) (hown : w.ownsRow base 204 2 (.slice a n cap) n (cellsC cs)) :
    Calls Try.prog 161 #[.slice a n cap] w fun e w' => e = .returned (.agg #[.int .i64 (pw ((8 - sumB cs % 8) % 8) - 1), .int .i64 ((8 - sumB cs % 8) % 8)]) ∧ Below w.heap.size w w' := by
  have HN : Hid (cs.length = n) := hn
  have HBD : Hid (∀ c ∈ cs, 0 ≤ c.2 ∧ c.2 ≤ 8) := hbd
  have HO : Hid (w.ownsRow base 204 2 (.slice a n cap) n (cellsC cs)) := hown
  clear hn hbd hown
  go_enter Try.func161, Try.ntmps161
  go_wp2
  go_loopw [3, 9] (fun u i wr => ∃ k : Nat, k ≤ n ∧ i = .int .i64 k ∧ u = .int .i64 (sumB (cs.take k)) ∧ Below (w.heap.size + 1) (w.alloc (.cells #[.int .i64 0, .int .i64 0] 204)) wr) (fun _ i _ => n - (intOf i).toNat)
  case atStart => exact ⟨0, by omega, rfl, rfl, Below.refl _ _⟩
  case round =>
    obtain ⟨k, hk, rfl, rfl, hbel⟩ := hrel
    have hsb := sumB_bd (cs.take k) (fun c hc => HBD.out c (List.mem_of_mem_take hc))
    have hsl : (cs.take k).length ≤ 16 := by rw [List.length_take]; have := HN.out; omega
    by_cases hlt : k < n
    · have hlt' : (k : Int) < n := by omega
      have hkl : k < cs.length := by rw [HN.out]; exact hlt
      obtain ⟨g, rfl⟩ : ∃ g, a = some ⟨g, 0, none⟩ := by
        rcases HO.out.2 with ⟨hv, h0⟩ | ⟨g, c', cur, hv, _⟩
        · omega
        · injection hv with h3; exact ⟨g, h3⟩
      obtain ⟨x, hx⟩ : ∃ x, cs[k].1 = x := ⟨_, rfl⟩
      obtain ⟨y, hy⟩ : ∃ y, cs[k].2 = y := ⟨_, rfl⟩
      have hgl : g < w.heap.size := (HO.out.lt g rfl).2
      have q1 : wr.cell? ⟨g, k * 2, none⟩ = some (.int .i64 x) := by
        have h := HO.out.cells (g := g) rfl (2 * k) _ (cellsC_at cs k hkl).1
        rw [Addr.add_lit, hx] at h
        rw [hbel.cell (p := ⟨g, k * 2, none⟩) (by show g < w.heap.size + 1; omega), (Below.alloc (Below.refl w.heap.size w) (Nat.le_refl _) _).cell (p := ⟨g, k * 2, none⟩) hgl]
        simpa [Nat.mul_comm] using h
      have q2 : wr.cell? ⟨g, k * 2 + 1, none⟩ = some (.int .i64 y) := by
        have h := HO.out.cells (g := g) rfl (2 * k + 1) _ (cellsC_at cs k hkl).2
        rw [Addr.add_lit, hy] at h
        rw [hbel.cell (p := ⟨g, k * 2 + 1, none⟩) (by show g < w.heap.size + 1; omega), (Below.alloc (Below.refl w.heap.size w) (Nat.le_refl _) _).cell (p := ⟨g, k * 2 + 1, none⟩) hgl]
        simpa [Nat.mul_comm] using h
      have yb : 0 ≤ y ∧ y ≤ 8 := by rw [← hy]; exact HBD.out _ (List.getElem_mem hkl)
      obtain ⟨y0, y1⟩ := yb
      have HS : Hid (sumB (cs.take (k + 1)) = sumB (cs.take k) + y) := by
        show sumB (cs.take (k + 1)) = sumB (cs.take k) + y
        rw [List.take_succ_eq_append_getElem hkl, sumB_snoc, hy]
      clear hx hy hkl
      obtain ⟨s0, s1⟩ := hsb
      go_wp2
      go_roundw
      case rel => exact ⟨k + 1, by omega, by go_num, by rw [HS.out], hbel.alloc (by have := hbel.size; simpa using this) _⟩
      case measure => simp [intOf]; omega
    · have hks : cs.take k = cs := List.take_of_length_le (by rw [HN.out]; omega)
      rw [hks] at hsb
      rw [hks]
      obtain ⟨s0, s1⟩ := hsb
      have s1' : sumB cs ≤ 128 := by have := HN.out; omega
      clear hks hsl s1
      have hblk : Hid (wr.heap[w.heap.size]? = some (.cells #[.int .i64 0, .int .i64 0] 204 (0, 0))) := by
        show wr.heap[w.heap.size]? = some (.cells #[.int .i64 0, .int .i64 0] 204 (0, 0))
        rw [hbel.block w.heap.size (by omega)]; exact heap_alloc_last _ _
      obtain ⟨f, hf⟩ : ∃ f, -(sumB cs % 8) % 8 = f := ⟨_, rfl⟩
      have HF : Hid ((8 - sumB cs % 8) % 8 = f) := by show (8 - sumB cs % 8) % 8 = f; omega
      have f0 : 0 ≤ f := by omega
      have f1 : f ≤ 7 := by omega
      have hinf : (Try.prog.info? 204).map (·.size) = some 2 := by kernel_rfl
      go_wp2_with (first | (go_at_call 158; refine (numTop_small _ _ (by omega) (by omega)).mono ?_; rintro e wq ⟨rfl, rfl⟩) | (refine wpList_store_row rfl 204 _ _ rfl w.heap.size #[.int .i64 (pw f - 1), .int .i64 f] rfl rfl 204 _ hblk.out hinf rfl (two_all _ _) ?_))
      refine bodyPost_ret (results_cell_row rfl _ _ w.heap.size 204 #[.int .i64 (pw f - 1), .int .i64 f] (0, 0) _ rfl (setRow_heap _ _ _ _ _ _ hblk.out) Try.underlying204 rfl hinf) rfl ⟨by rw [HF.out], setRow_below (((Below.refl _ _).alloc (Nat.le_refl _) _).trans (hbel.mono (by omega))) _ _ (Nat.le_refl _)⟩
end Go.Proofs.Ytghgcobnmmommaa
