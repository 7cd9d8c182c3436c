import Derived.Test.YtdnajdobmlgmiaaProg
import Derived.Test.YtdnajdobmlgmiaaBA
import Derived.Lib.BufferWrite
import Derived.Deep.WholeRow
import Derived.Deep.QuietTactic
import Derived.BigQuiet
import Derived.Lib.ConvBytes
import Derived.Lib.UnsafeStr
import Derived.Laws.MakeOwn
import Derived.Laws.AppendOwn
namespace Go.Proofs.Ytdnajdobmlgmiaa
open Go.RowKit
set_option linter.unusedVariables false

theorem bdrew {a w : World} {B : Nat} (h : Below B a w) (n : Nat) : Below B a (w.drewN n) := by
  obtain ⟨h1, h2, h3, h4, h5⟩ := h
  exact ⟨h1, h2, h3, h4, h5⟩

theorem or_all : ∀ n : Fin 256, bits .or .i64 ((n.val : Int) * 2) 0 = 2 * n.val + 0 ∧ bits .or .i64 ((n.val : Int) * 2) 1 = 2 * n.val + 1 := by decide +kernel
theorem or_bit (num b : Int) (h0 : 0 ≤ num) (h1 : num ≤ 255) (hb : b = 0 ∨ b = 1) : bits .or .i64 (num * 2) b = 2 * num + b := by
  obtain ⟨n, rfl⟩ := Int.eq_ofNat_of_zero_le h0
  have h := or_all ⟨n, by omega⟩
  rcases hb with rfl | rfl
  · exact h.1
  · exact h.2

/-- The signs, in memory. -/
def WSv : Array Value := #[.int .u8 101, .int .u8 116, .int .u8 97, .int .u8 111, .int .u8 105, .int .u8 110, .int .u8 115, .int .u8 114, .int .u8 104, .int .u8 108, .int .u8 48, .int .u8 49, .int .u8 50, .int .u8 51, .int .u8 52, .int .u8 53, .int .u8 54, .int .u8 55, .int .u8 56, .int .u8 57, .int .u8 100, .int .u8 99, .int .u8 117, .int .u8 109, .int .u8 102, .int .u8 112, .int .u8 103, .int .u8 119, .int .u8 121, .int .u8 98, .int .u8 118, .int .u8 107, .int .u8 120, .int .u8 106, .int .u8 113, .int .u8 122, .int .u8 58, .int .u8 47, .int .u8 45]
theorem WSv_size : WSv.size = 39 := rfl
theorem WSv_one : WSv.all (·.oneCell') = true := by kernel_rfl
theorem WSv_at (i : Nat) (h : i < 39) : WSv[i]? = some (.int .u8 (WS.getD i 0)) := by
  have e : WSv = (WS.map (Value.int .u8)).toArray := rfl
  rw [e]
  have h' : i < WS.length := by rw [WS_length]; exact h
  simp [List.getD_eq_getElem?_getD, List.getElem?_eq_getElem h']
theorem signs_cell (w : World) (g : Nat) (t : TypeId) (hg : w.heap[g]? = some (.cells WSv t (0, 0))) (i : Nat) (h : i < 39) : w.cell? ⟨g, i, none⟩ = some (.int .u8 (WS.getD i 0)) := by
  rw [cell_of_row w g i WSv t (0, 0) hg]
  exact WSv_at i h
theorem info49 : (Try.prog.info? 111).map (·.size) = some WSv.size := by kernel_rfl
theorem setRow_first (w : World) (c c' : Array Value) (t : TypeId) (o : Obj) : ((w.alloc (.cells c t)).alloc o).setRow w.heap.size c' = (w.alloc (.cells c' t)).alloc o := by
  simp only [World.setRow, World.alloc]
  congr 1
  apply Array.ext_getElem?
  intro i
  rw [Array.getElem?_modify]
  by_cases h : w.heap.size = i
  · subst h
    simp [Array.getElem?_push]
  · have h' : ¬ i = w.heap.size := fun e => h e.symm
    simp [h, h', Array.getElem?_push]
theorem heap_first (w : World) (o o' : Obj) : ((w.alloc o).alloc o').heap[w.heap.size]? = some o := by
  show ((w.heap.push o).push o')[w.heap.size]? = some o
  simp [Array.getElem?_push]
theorem copy_signs (w : World) (o : Obj) (cur : Array Value) (t : TypeId) (hc : cur.size = 39) :
    (Builtin.copy_ #[105, 9] 3 #[.slice (some ⟨w.heap.size + 1, 0, none⟩) 39 39, .string ⟨#[101, 116, 97, 111, 105, 110, 115, 114, 104, 108, 48, 49, 50, 51, 52, 53, 54, 55, 56, 57, 100, 99, 117, 109, 102, 112, 103, 119, 121, 98, 118, 107, 120, 106, 113, 122, 58, 47, 45]⟩]).run Try.prog ((w.alloc o).alloc (.cells cur t)) = .ok (.int .i64 39) ((w.alloc o).alloc (.cells WSv t)) := by
  have hs : w.heap.size + 1 = (w.alloc o).heap.size := by simp
  rw [hs, Lib.run_copy_row_string ((w.alloc o).alloc (.cells cur t)) 105 9 3 5 (w.alloc o).heap.size 0 39 39 _ cur t Try.underlying105 (by kernel_rfl) (heap_alloc_last (w.alloc o) _) (by decide) (by rw [hc]; decide)]
  rw [World.setRow_alloc_new]
  have e : (cur.toList.take 0 ++ Lib.byteCells (⟨#[101, 116, 97, 111, 105, 110, 115, 114, 104, 108, 48, 49, 50, 51, 52, 53, 54, 55, 56, 57, 100, 99, 117, 109, 102, 112, 103, 119, 121, 98, 118, 107, 120, 106, 113, 122, 58, 47, 45]⟩ : ByteArray).data.toList ++ cur.toList.drop (0 + 39)).toArray = WSv := by
    rw [List.drop_eq_nil_of_le (by simp [hc])]
    rfl
  rw [show (⟨#[101, 116, 97, 111, 105, 110, 115, 114, 104, 108, 48, 49, 50, 51, 52, 53, 54, 55, 56, 57, 100, 99, 117, 109, 102, 112, 103, 119, 121, 98, 118, 107, 120, 106, 113, 122, 58, 47, 45]⟩ : ByteArray).size = 39 from rfl, e]
  rfl
theorem setRow_below {B : Nat} {a w : World} (h : Below B a w) (g : Nat) (cs : Array Value) (hg : B ≤ g) : Below B a (w.setRow g cs) := by
  obtain ⟨h1, h2, h3, h4, h5⟩ := h
  refine ⟨h1, h2, h3, by simpa [World.setRow] using h4, fun k hk => ?_⟩
  rw [← h5 k hk]
  show (w.heap.modify g _)[k]? = _
  rw [Array.getElem?_modify, if_neg (by omega)]
set_option maxRecDepth 100000 in
set_option maxHeartbeats 1000000 in
set_option maxRecDepth 100000 in
theorem signArray_any (w : World) :
    Calls Try.prog 84 #[] w fun e w' => e = .returned (.agg WSv) ∧ Below w.heap.size w w' := by
  have hcp := copy_signs w
  go_enter Try.func84, Try.ntmps84
  go_wp2_with (first | (refine wpList_load_row rfl 111 _ rfl (w.heap.size + 1) rfl 111 WSv (0, 0) _ (by have := heap_alloc_last (w.alloc (.cells #[.int .u8 0, .int .u8 0, .int .u8 0, .int .u8 0, .int .u8 0, .int .u8 0, .int .u8 0, .int .u8 0, .int .u8 0, .int .u8 0, .int .u8 0, .int .u8 0, .int .u8 0, .int .u8 0, .int .u8 0, .int .u8 0, .int .u8 0, .int .u8 0, .int .u8 0, .int .u8 0, .int .u8 0, .int .u8 0, .int .u8 0, .int .u8 0, .int .u8 0, .int .u8 0, .int .u8 0, .int .u8 0, .int .u8 0, .int .u8 0, .int .u8 0, .int .u8 0, .int .u8 0, .int .u8 0, .int .u8 0, .int .u8 0, .int .u8 0, .int .u8 0, .int .u8 0] 111)) (.cells WSv 111); simpa using this) Try.underlying111 rfl info49 ?_) | (refine wpList_store_row rfl 111 _ _ rfl w.heap.size WSv rfl rfl 111 _ (heap_first w _ _) info49 rfl WSv_one ?_))
  refine bodyPost_ret (results_cell_row rfl _ _ w.heap.size 111 WSv (0, 0) _ rfl (setRow_heap _ _ _ _ _ _ (heap_first w _ _)) Try.underlying111 rfl info49) rfl ⟨rfl, setRow_below (((Below.refl _ _).alloc (Nat.le_refl _) _).alloc (by simp) _) _ _ (Nat.le_refl _)⟩
end Go.Proofs.Ytdnajdobmlgmiaa

namespace Go.Proofs.Ytdnajdobmlgmiaa
open Go.RowKit
set_option linter.unusedVariables false

set_option maxRecDepth 100000 in
set_option maxHeartbeats 400000 in
theorem index_any (g : Nat) (c : Int) (w : World) (h0 : 0 ≤ c) (h1 : c ≤ 255) (hcell : ∀ i, i < 39 → w.cell? ⟨g, i, none⟩ = some (.int .u8 (WS.getD i 0))) :
    Calls Try.prog 86 #[.slice (some ⟨g, 0, none⟩) 39 39, .int .u8 c] w fun e w' => e = .returned (.int .i64 (sgn c)) ∧ w' = w := by
  have HC : Hid (∀ i, i < 39 → w.cell? ⟨g, i, none⟩ = some (.int .u8 (WS.getD i 0))) := hcell
  clear hcell
  go_enter Try.func86, Try.ntmps86
  go_wp2
  go_loop [8] (fun i => ∃ k : Nat, k ≤ 39 ∧ i = .int .i64 k ∧ ∀ j, j < k → WS.getD j 0 ≠ c) (fun i => 39 - (intOf i).toNat)
  case atStart => exact ⟨0, by omega, rfl, by intro j hj; omega⟩
  case round =>
    obtain ⟨k, hk, rfl, hall⟩ := hrel
    have HA : Hid (∀ j, j < k → WS.getD j 0 ≠ c) := hall
    clear hall
    by_cases hlt : k < 39
    · have hlt' : (k : Int) < 39 := by omega
      obtain ⟨x, hx⟩ : ∃ x, WS.getD k 0 = x := ⟨_, rfl⟩
      have hq := HC.out k hlt
      rw [hx] at hq
      have HX : Hid (WS.getD k 0 = x) := hx
      clear hx
      by_cases hxc : x = c
      · subst hxc
        go_wp2
        go_ret
        exact ⟨ret_int (by rw [← HX.out, sgn_at hlt]), rfl⟩
      · have hxc' : (c == x) = false := by simp; omega
        go_wp2
        go_round
        case rel =>
          refine ⟨k + 1, by omega, by go_num, ?_⟩
          intro j hj
          by_cases e : j = k
          · rw [e, HX.out]; exact hxc
          · exact HA.out j (by omega)
        case measure => simp [intOf]; omega
    · go_wp2
      go_ret
      exact ⟨ret_int (by rw [sgn_none (fun j hj => HA.out j (by omega))]), rfl⟩

set_option maxRecDepth 100000 in
set_option maxHeartbeats 400000 in
theorem contains_any (g : Nat) (c : Int) (w : World) (h0 : 0 ≤ c) (h1 : c ≤ 255) (hcell : ∀ i, i < 39 → w.cell? ⟨g, i, none⟩ = some (.int .u8 (WS.getD i 0))) :
    Calls Try.prog 85 #[.slice (some ⟨g, 0, none⟩) 39 39, .int .u8 c] w fun e w' => e = .returned (.bool (decide (0 ≤ sgn c))) ∧ w' = w := by
  have hi := index_any g c w h0 h1 hcell
  have g1 := sgn_ge c
  have g2 := sgn_lt c
  clear hcell
  go_enter Try.func85, Try.ntmps85
  go_wp2_with (go_at_call 86; refine hi.mono ?_; rintro e w' ⟨rfl, rfl⟩)
  go_ret
  exact ⟨rfl, rfl⟩

/-- '[]byte(s)'. -/
theorem conv_any (w : World) (s : ByteArray) : ∃ cap C fr w', (convert 9 105 (.string s)).run Try.prog w = .ok (.slice (some ⟨w.heap.size, 0, none⟩) s.size cap) w' ∧ Below w.heap.size w w' ∧ w.heap.size < w'.heap.size ∧
    w'.heap[w.heap.size]? = some (.cells C 5 fr) ∧ ∀ j, j < s.size → C[j]? = some (.int .u8 ((bytesL s).getD j 0)) := by
  refine ⟨_, _, _, _, Lib.run_convert_string_bytes w 9 105 5 s Try.underlying9 Try.underlying105 Try.underlying5, ⟨rfl, rfl, rfl, ?_, ?_⟩, ?_, Lib.bytesWorld_at_new w 5 s, ?_⟩
  · rw [Lib.bytesWorld_size]; omega
  · intro k hk; exact Lib.bytesWorld_at_old w _ s k hk
  · rw [Lib.bytesWorld_size]; omega
  · intro j hj
    have hc := Lib.bytesWorld_cell w 5 s j hj
    rw [cell_of_row _ _ j _ _ _ (Lib.bytesWorld_at_new w 5 s)] at hc
    rw [hc]
    have h1 : j < s.data.toList.length := by simpa using hj
    have h2 : j < (bytesL s).length := by rw [bytesL_length]; exact hj
    simp only [List.getD_eq_getElem?_getD, List.getElem?_eq_getElem h1, List.getElem?_eq_getElem h2, Option.getD_some]
    rw [← bytesL_at s j hj]
    rfl

set_option maxRecDepth 100000 in
set_option maxHeartbeats 400000 in
theorem implOk (s : ByteArray) (w : World) (hm : s.size ≤ maxLen) :
    Calls Try.prog 81 #[.string s] w fun e w' => e = .returned (.bool (wOk (bytesL s))) ∧ Below w.heap.size w w' := by
  unfold maxLen at hm
  by_cases h16 : s.size ≤ 16
  · have h16' : (s.size : Int) ≤ 16 := by omega
    go_enter Try.func81, Try.ntmps81
    go_wp2_with (first | (go_at_call 84; refine (signArray_any _).mono ?_; rintro e w1 ⟨rfl, hb1⟩; obtain ⟨cap, C2, fr2, w2, hcv, hb2, hz2, hblk2, hC2⟩ := conv_any (w1.alloc (.cells WSv 111)) s; have hcell2 : ∀ j, j < s.size → w2.cell? ⟨(w1.alloc (.cells WSv 111)).heap.size, j, none⟩ = some (.int .u8 ((bytesL s).getD j 0)) := (fun j hj => (cell_of_row _ _ j _ _ _ hblk2).trans (hC2 j hj)); clear hblk2 hC2; have HC2 : Hid (∀ j, j < s.size → w2.cell? ⟨(w1.alloc (.cells WSv 111)).heap.size, j, none⟩ = some (.int .u8 ((bytesL s).getD j 0))) := hcell2; clear hcell2; have HB2 : Hid (Below (w1.alloc (.cells WSv 111)).heap.size (w1.alloc (.cells WSv 111)) w2) := hb2; clear hb2) | (refine wpList_store_row rfl 111 _ _ rfl w1.heap.size WSv rfl rfl 111 _ (heap_alloc_last _ _) info49 rfl WSv_one ?_; rw [World.setRow_alloc_new]))
    have HS : Hid (∀ i, i < 39 → w2.cell? ⟨w1.heap.size, i, none⟩ = some (.int .u8 (WS.getD i 0))) := fun i hi => by
      rw [HB2.out.cell (p := ⟨w1.heap.size, i, none⟩) (by simp)]
      exact signs_cell _ _ _ (heap_alloc_last _ _) i hi
    have hbw : Below w.heap.size w w2 := (hb1.alloc hb1.size _).trans (HB2.out.mono (by have := hb1.size; simp; omega))
    go_loop [13] (fun i => ∃ k : Nat, k ≤ s.size ∧ i = .int .i64 k ∧ ∀ j, j < k → 0 ≤ sgn ((bytesL s).getD j 0)) (fun i => s.size - (intOf i).toNat)
    case atStart => exact ⟨0, by omega, rfl, by intro j hj; omega⟩
    case round =>
      obtain ⟨k, hk, rfl, hall⟩ := hrel
      have HA : Hid (∀ j, j < k → 0 ≤ sgn ((bytesL s).getD j 0)) := hall
      clear hall
      by_cases hlt : k < s.size
      · have hlt' : (k : Int) < s.size := by omega
        obtain ⟨x, hx⟩ : ∃ x, (bytesL s).getD k 0 = x := ⟨_, rfl⟩
        have hkl : k < (bytesL s).length := by rw [bytesL_length]; exact hlt
        have hq := HC2.out k hlt
        rw [hx] at hq
        simp at hq
        have hxb := bytesL_bd s x (by rw [← hx]; simp [List.getD, hkl])
        obtain ⟨x0, x1⟩ := hxb
        have HX : Hid ((bytesL s).getD k 0 = x) := hx
        clear hx hkl
        have g1 := sgn_ge x
        have g2 := sgn_lt x
        have hct := contains_any w1.heap.size x w2 x0 x1 HS.out
        by_cases hs : sgn x < 0
        · have hd : decide (0 ≤ sgn x) = false := by simp; omega
          rw [hd] at hct
          go_wp2_with (go_at_call 85; refine hct.mono ?_; clear hct; rintro e w' ⟨rfl, rfl⟩)
          go_ret
          exact ⟨ret_bool' (wOk_no (k := k) (by rw [bytesL_length]; exact hlt) (by rw [HX.out]; exact hs)).symm, hbw⟩
        · have hd : decide (0 ≤ sgn x) = true := by simp; omega
          rw [hd] at hct
          go_wp2_with (go_at_call 85; refine hct.mono ?_; clear hct; rintro e w' ⟨rfl, rfl⟩)
          go_round
          case rel =>
            refine ⟨k + 1, by omega, by go_num, ?_⟩
            intro j hj
            by_cases e : j = k
            · rw [e, HX.out]; omega
            · exact HA.out j (by omega)
          case measure => simp [intOf]; omega
      · go_wp2
        go_ret
        refine ⟨ret_bool' ?_, hbw⟩
        unfold wOk
        rw [wOk_take (k := k) HA.out (by rw [bytesL_length]; omega), bytesL_length]
        simp; omega
  · have h16' : (16 : Int) < s.size := by omega
    go_enter Try.func81, Try.ntmps81
    go_wp2
    go_ret
    refine ⟨ret_bool' ?_, Below.refl _ _⟩
    unfold wOk
    rw [bytesL_length, show decide (s.size ≤ 16) = false by simp; omega]
    simp
end Go.Proofs.Ytdnajdobmlgmiaa

namespace Go.Proofs.Ytdnajdobmlgmiaa
open Go.RowKit
set_option linter.unusedVariables false

theorem info5v : (Try.prog.info? 5).map (fun i => (i.zero, i.size, i.bytes)) = some (some (.int .u8 0), 1, 1) := by kernel_rfl
end Go.Proofs.Ytdnajdobmlgmiaa

namespace Go.Proofs.Ytdnajdobmlgmiaa
open Go.RowKit
set_option linter.unusedVariables false

/-- Codes, in memory. -/
def cellsC (cs : List (Int × Int)) : List Value := cs.flatMap fun c => [Value.int .i64 c.1, Value.int .i64 c.2]
theorem cellsC_snoc (cs : List (Int × Int)) (a b : Int) : cellsC (cs ++ [(a, b)]) = cellsC cs ++ [Value.int .i64 a, Value.int .i64 b] := by simp [cellsC]
theorem cellsC_cons (c : Int × Int) (cs : List (Int × Int)) : cellsC (c :: cs) = Value.int .i64 c.1 :: Value.int .i64 c.2 :: cellsC cs := by simp [cellsC]
theorem cellsC_length (cs : List (Int × Int)) : (cellsC cs).length = 2 * cs.length := by
  induction cs with
  | nil => rfl
  | cons c t ih => rw [cellsC_cons, List.length_cons, List.length_cons, ih, List.length_cons]; omega
theorem cellsC_at (cs : List (Int × Int)) (k : Nat) (h : k < cs.length) : (cellsC cs)[2 * k]? = some (.int .i64 cs[k].1) ∧ (cellsC cs)[2 * k + 1]? = some (.int .i64 cs[k].2) := by
  induction cs generalizing k with
  | nil => simp at h
  | cons c t ih =>
    cases k with
    | zero => simp [cellsC_cons]
    | succ k =>
      have := ih k (by simpa using h)
      rw [cellsC_cons, show 2 * (k + 1) = 2 * k + 1 + 1 by omega]
      simpa using this
/-- The code of a sign. -/
def codeOf (c : Int) : Int × Int := if sgn c < 24 then (sgn c, 5) else (96 + sgn c - 24, 7)
theorem not_row {W : World} {B : Nat} {t e : TypeId} {C : Array Value} {fr : Nat × Nat} (h : W.heap[B]? = some (.cells C t fr)) (hte : t ≠ e) {base size k : Nat} {v : Value} {xs : List Value} (hr : W.ownsRow base e size v k xs) : some B ≠ v.ownBlock := by
  rcases hr.2 with ⟨rfl, _⟩ | ⟨g, cap, cur, rfl, _, hgb, _⟩
  · simp [Value.ownBlock]
  · intro e'
    obtain rfl : B = g := by simpa [Value.ownBlock] using e'
    have := h.symm.trans hgb
    simp at this
    exact hte this.2.1
theorem blk_lt {W : World} {B : Nat} {o : Obj} (h : W.heap[B]? = some o) : B < W.heap.size := (Array.getElem?_eq_some_iff.1 h).1
theorem blk_alloc {W : World} {B : Nat} {o : Obj} (h : W.heap[B]? = some o) (o' : Obj) : (W.alloc o').heap[B]? = some o := by
  have := blk_lt h
  show (W.heap.push o')[B]? = _
  rw [Array.getElem?_push, if_neg (by omega)]
  exact h
theorem kept_app {W w3 : World} {tmp : Obj} {B : Nat} {t e : TypeId} {C : Array Value} {fr : Nat × Nat} (h : W.heap[B]? = some (.cells C t fr)) (hte : t ≠ e) {base size k : Nat} {v : Value} {xs : List Value} (hr : W.ownsRow base e size v k xs) (hgrow : (W.alloc tmp).grownBy w3 v.ownBlock) : w3.heap[B]? = some (.cells C t fr) :=
  (hgrow.block B (blk_lt (blk_alloc h tmp)) (not_row h hte hr)).trans (blk_alloc h tmp)
theorem own_zero2 (w : World) (e : TypeId) : (w.alloc (.cells #[] e)).ownsRow w.heap.size e 2 (.slice (some ⟨w.heap.size, 0, none⟩) 0 0) 0 [] :=
  ⟨rfl, .inr ⟨w.heap.size, 0, #[], rfl, Nat.le_refl _, by show (w.heap.push _)[w.heap.size]? = _; simp, Nat.le_refl _, by decide, rfl, rfl⟩⟩
theorem own_base {w : World} {b b' : Nat} {e : TypeId} {size : Nat} {v : Value} {n : Nat} {xs : List Value} (h : w.ownsRow b e size v n xs) (hb : b' ≤ b) : w.ownsRow b' e size v n xs := by
  refine ⟨h.1, ?_⟩
  rcases h.2 with h0 | ⟨g, cap, cur, h1, h2, h3⟩
  · exact .inl h0
  · exact .inr ⟨g, cap, cur, h1, Nat.le_trans hb h2, h3⟩
theorem own_below' {w w' : World} {base : Nat} {e : TypeId} {size : Nat} {v : Value} {n : Nat} {xs : List Value} (h : w.ownsRow base e size v n xs) (hb : Below w.heap.size w w') : w'.ownsRow base e size v n xs := by
  refine ⟨h.1, ?_⟩
  rcases h.2 with h0 | ⟨g, cap, cur, h1, h2, h3, h4⟩
  · exact .inl h0
  · exact .inr ⟨g, cap, cur, h1, h2, by rw [hb.block g (blk_lt h3)]; exact h3, h4⟩
theorem cell_two (w : World) (x y : Value) (e : TypeId) : ∀ j u, [x, y][j]? = some u → (w.alloc (.cells #[x, y] e)).cell? ((⟨w.heap.size, 0, none⟩ : Addr).add j) = some u := by
  intro j u hj
  rw [Addr.add_lit]
  match j, hj with
  | 0, hj => simp at hj; subst hj; simp
  | 1, hj => simp at hj; subst hj; simp
theorem two_cell (a b : Int) : ∀ u ∈ [Value.int .i64 a, Value.int .i64 b], u.oneCell' = true := by
  intro u hu; simp at hu; rcases hu with rfl | rfl <;> rfl

theorem two_all (a b : Int) : (#[.int .i64 a, .int .i64 b] : Array Value).all (·.oneCell') = true := by simp [Value.oneCell']

end Go.Proofs.Ytdnajdobmlgmiaa

namespace Go.Proofs.Ytdnajdobmlgmiaa
open Go.RowKit
set_option linter.unusedVariables false

/-- How many bits codes have. -/
def sumB : List (Int × Int) → Int
  | [] => 0
  | c :: t => c.2 + sumB t
theorem sumB_snoc (cs : List (Int × Int)) (c : Int × Int) : sumB (cs ++ [c]) = sumB cs + c.2 := by
  induction cs with
  | nil => simp [sumB]
  | cons a t ih => simp only [List.cons_append, sumB, ih]; omega
theorem sumB_bd (cs : List (Int × Int)) (h : ∀ c ∈ cs, 0 ≤ c.2 ∧ c.2 ≤ 8) : 0 ≤ sumB cs ∧ sumB cs ≤ 8 * cs.length := by
  induction cs with
  | nil => simp [sumB]
  | cons a t ih =>
    have h1 := h a (by simp)
    have h2 := ih (fun c hc => h c (by simp [hc]))
    simp only [sumB, List.length_cons]
    omega
end Go.Proofs.Ytdnajdobmlgmiaa
