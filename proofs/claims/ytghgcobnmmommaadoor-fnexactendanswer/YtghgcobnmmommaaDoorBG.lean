import Derived.Test.YtghgcobnmmommaaDoorProg
import Derived.Test.YtghgcobnmmommaaDoorBA
import Derived.Lib.BufferWrite
import Derived.Deep.WholeRow
import Derived.Deep.QuietTactic
import Derived.BigQuiet
import Derived.Lib.ConvBytes
import Derived.Lib.UnsafeStr
import Derived.Laws.MakeOwn
import Derived.Laws.AppendOwn
namespace Go.Proofs.YtghgcobnmmommaaDoor
open Go.RowKit
set_option linter.unusedVariables false

theorem bdrew {a w : World} {B : Nat} (h : Below B a w) (n : Nat) : Below B a (w.drewN n) := by
  obtain ⟨h1, h2, h3, h4, h5⟩ := h
  exact ⟨h1, h2, h3, h4, h5⟩

theorem or_all : ∀ n : Fin 256, bits .or .i64 ((n.val : Int) * 2) 0 = 2 * n.val + 0 ∧ bits .or .i64 ((n.val : Int) * 2) 1 = 2 * n.val + 1 := by decide +kernel
theorem or_bit (num b : Int) (h0 : 0 ≤ num) (h1 : num ≤ 255) (hb : b = 0 ∨ b = 1) : bits .or .i64 (num * 2) b = 2 * num + b := by
  obtain ⟨n, rfl⟩ := Int.eq_ofNat_of_zero_le h0
  have h := or_all ⟨n, by omega⟩
  rcases hb with rfl | rfl
  · exact h.1
  · exact h.2

/-- The signs, in memory. -/
def WSv : Array Value := #[.int .u8 101, .int .u8 116, .int .u8 97, .int .u8 111, .int .u8 105, .int .u8 110, .int .u8 115, .int .u8 114, .int .u8 104, .int .u8 108, .int .u8 48, .int .u8 49, .int .u8 50, .int .u8 51, .int .u8 52, .int .u8 53, .int .u8 54, .int .u8 55, .int .u8 56, .int .u8 57, .int .u8 100, .int .u8 99, .int .u8 117, .int .u8 109, .int .u8 102, .int .u8 112, .int .u8 103, .int .u8 119, .int .u8 121, .int .u8 98, .int .u8 118, .int .u8 107, .int .u8 120, .int .u8 106, .int .u8 113, .int .u8 122, .int .u8 58, .int .u8 47, .int .u8 45]
theorem WSv_size : WSv.size = 39 := rfl
theorem WSv_one : WSv.all (·.oneCell') = true := by kernel_rfl
theorem WSv_at (i : Nat) (h : i < 39) : WSv[i]? = some (.int .u8 (WS.getD i 0)) := by
  have e : WSv = (WS.map (Value.int .u8)).toArray := rfl
  rw [e]
  have h' : i < WS.length := by rw [WS_length]; exact h
  simp [List.getD_eq_getElem?_getD, List.getElem?_eq_getElem h']
theorem signs_cell (w : World) (g : Nat) (t : TypeId) (hg : w.heap[g]? = some (.cells WSv t (0, 0))) (i : Nat) (h : i < 39) : w.cell? ⟨g, i, none⟩ = some (.int .u8 (WS.getD i 0)) := by
  rw [cell_of_row w g i WSv t (0, 0) hg]
  exact WSv_at i h
theorem setRow_first (w : World) (c c' : Array Value) (t : TypeId) (o : Obj) : ((w.alloc (.cells c t)).alloc o).setRow w.heap.size c' = (w.alloc (.cells c' t)).alloc o := by
  simp only [World.setRow, World.alloc]
  congr 1
  apply Array.ext_getElem?
  intro i
  rw [Array.getElem?_modify]
  by_cases h : w.heap.size = i
  · subst h
    simp [Array.getElem?_push]
  · have h' : ¬ i = w.heap.size := fun e => h e.symm
    simp [h, h', Array.getElem?_push]
theorem heap_first (w : World) (o o' : Obj) : ((w.alloc o).alloc o').heap[w.heap.size]? = some o := by
  show ((w.heap.push o).push o')[w.heap.size]? = some o
  simp [Array.getElem?_push]
theorem copy_signs (w : World) (o : Obj) (cur : Array Value) (t : TypeId) (hc : cur.size = 39) :
    (Builtin.copy_ #[22, 9] 3 #[.slice (some ⟨w.heap.size + 1, 0, none⟩) 39 39, .string ⟨#[101, 116, 97, 111, 105, 110, 115, 114, 104, 108, 48, 49, 50, 51, 52, 53, 54, 55, 56, 57, 100, 99, 117, 109, 102, 112, 103, 119, 121, 98, 118, 107, 120, 106, 113, 122, 58, 47, 45]⟩]).run Tryd.prog ((w.alloc o).alloc (.cells cur t)) = .ok (.int .i64 39) ((w.alloc o).alloc (.cells WSv t)) := by
  have hs : w.heap.size + 1 = (w.alloc o).heap.size := by simp
  rw [hs, Lib.run_copy_row_string ((w.alloc o).alloc (.cells cur t)) 22 9 3 5 (w.alloc o).heap.size 0 39 39 _ cur t Tryd.underlying22 (by kernel_rfl) (heap_alloc_last (w.alloc o) _) (by decide) (by rw [hc]; decide)]
  rw [World.setRow_alloc_new]
  have e : (cur.toList.take 0 ++ Lib.byteCells (⟨#[101, 116, 97, 111, 105, 110, 115, 114, 104, 108, 48, 49, 50, 51, 52, 53, 54, 55, 56, 57, 100, 99, 117, 109, 102, 112, 103, 119, 121, 98, 118, 107, 120, 106, 113, 122, 58, 47, 45]⟩ : ByteArray).data.toList ++ cur.toList.drop (0 + 39)).toArray = WSv := by
    rw [List.drop_eq_nil_of_le (by simp [hc])]
    rfl
  rw [show (⟨#[101, 116, 97, 111, 105, 110, 115, 114, 104, 108, 48, 49, 50, 51, 52, 53, 54, 55, 56, 57, 100, 99, 117, 109, 102, 112, 103, 119, 121, 98, 118, 107, 120, 106, 113, 122, 58, 47, 45]⟩ : ByteArray).size = 39 from rfl, e]
  rfl
theorem setRow_below {B : Nat} {a w : World} (h : Below B a w) (g : Nat) (cs : Array Value) (hg : B ≤ g) : Below B a (w.setRow g cs) := by
  obtain ⟨h1, h2, h3, h4, h5⟩ := h
  refine ⟨h1, h2, h3, by simpa [World.setRow] using h4, fun k hk => ?_⟩
  rw [← h5 k hk]
  show (w.heap.modify g _)[k]? = _
  rw [Array.getElem?_modify, if_neg (by omega)]
end Go.Proofs.YtghgcobnmmommaaDoor

namespace Go.Proofs.YtghgcobnmmommaaDoor
open Go.RowKit
set_option linter.unusedVariables false

/-- '[]byte(s)'. -/
theorem conv_any (w : World) (s : ByteArray) : ∃ cap C fr w', (convert 9 22 (.string s)).run Tryd.prog w = .ok (.slice (some ⟨w.heap.size, 0, none⟩) s.size cap) w' ∧ Below w.heap.size w w' ∧ w.heap.size < w'.heap.size ∧
    w'.heap[w.heap.size]? = some (.cells C 5 fr) ∧ ∀ j, j < s.size → C[j]? = some (.int .u8 ((bytesL s).getD j 0)) := by
  refine ⟨_, _, _, _, Lib.run_convert_string_bytes w 9 22 5 s Tryd.underlying9 Tryd.underlying22 Tryd.underlying5, ⟨rfl, rfl, rfl, ?_, ?_⟩, ?_, Lib.bytesWorld_at_new w 5 s, ?_⟩
  · rw [Lib.bytesWorld_size]; omega
  · intro k hk; exact Lib.bytesWorld_at_old w _ s k hk
  · rw [Lib.bytesWorld_size]; omega
  · intro j hj
    have hc := Lib.bytesWorld_cell w 5 s j hj
    rw [cell_of_row _ _ j _ _ _ (Lib.bytesWorld_at_new w 5 s)] at hc
    rw [hc]
    have h1 : j < s.data.toList.length := by simpa using hj
    have h2 : j < (bytesL s).length := by rw [bytesL_length]; exact hj
    simp only [List.getD_eq_getElem?_getD, List.getElem?_eq_getElem h1, List.getElem?_eq_getElem h2, Option.getD_some]
    rw [← bytesL_at s j hj]
    rfl

end Go.Proofs.YtghgcobnmmommaaDoor

namespace Go.Proofs.YtghgcobnmmommaaDoor
open Go.RowKit
set_option linter.unusedVariables false

theorem info5v : (Tryd.prog.info? 5).map (fun i => (i.zero, i.size, i.bytes)) = some (some (.int .u8 0), 1, 1) := by kernel_rfl
set_option maxRecDepth 100000 in
set_option maxHeartbeats 400000 in
theorem cloneL_huge (s : ByteArray) (w : World) (hz : s.size ≤ 4000000) :
    Calls Tryd.prog 19 #[.string s] w fun e w' => e = .returned (.string s) ∧ Below w.heap.size w w' := by
  by_cases h0 : s.size = 0
  · have hs : s = ⟨#[]⟩ := ByteArray.ext (Array.eq_empty_of_size_eq_zero h0)
    subst hs
    go_enter Tryd.func19, Tryd.ntmps19
    go_wp2
    go_ret
    exact ⟨rfl, Below.refl _ _⟩
  · obtain ⟨i5, hi5, h50, h51, h52⟩ := info_parts info5v
    have hco : Tryd.prog.cellsOf 5 = 1 := by simp [Program.cellsOf, hi5, h51]
    have hmk := run_make (P := Tryd.prog) w 22 5 i5 (.int .u8 0) Tryd.underlying22 hi5 h50 .i64 .i64 (s.size : Int) (s.size : Int) (by omega) (by omega) (by rw [h52]; omega) (by omega)
    obtain ⟨M, hM⟩ : ∃ M, madeCells (Value.int .u8 0).cells (((s.size : Nat) : Int).toNat * i5.size) = M := ⟨_, rfl⟩
    have hMs : M.size = s.size := by rw [← hM, size_madeCells, h51]; simp
    rw [hM, Int.toNat_natCast] at hmk
    have hcp := Lib.run_copy_row_string (P := Tryd.prog) (w.alloc (.cells M 5)) 22 9 3 5 w.heap.size 0 s.size s.size s M 5 Tryd.underlying22 (by kernel_rfl) (heap_alloc_last w _) (Nat.le_refl _) (by omega)
    rw [World.setRow_alloc_new] at hcp
    obtain ⟨Y, hY⟩ : ∃ Y, (M.toList.take 0 ++ Lib.byteCells s.data.toList ++ M.toList.drop (0 + s.size)).toArray = Y := ⟨_, rfl⟩
    rw [hY] at hcp
    have hYl : Y.toList = Lib.byteCells s.data.toList := by
      rw [← hY, List.toList_toArray, List.take_zero, List.nil_append, List.drop_of_length_le (by rw [Array.length_toList]; omega), List.append_nil]
    have hds : s.data.toList.length = s.size := by simp
    have hYs : Y.size = s.size := by rw [← Array.length_toList, hYl, Lib.byteCells_length, hds]
    have hne : s.data.toList ≠ [] := fun e => h0 (by rw [← hds, e]; rfl)
    have hus := Lib.run_unsafeString_row (P := Tryd.prog) (w.alloc (.cells Y 5)) 39 3 9 5 Tryd.underlying39 hco w.heap.size Y.size (by unfold World.shape?; rw [heap_alloc_last]) s.data.toList hne (by rw [hds]; omega) (by rw [hds]; omega)
      (fun j x hx => by
        rw [Addr.add_lit, Nat.zero_add, cell_of_row _ _ j Y 5 (0, 0) (heap_alloc_last w _), ← Array.getElem?_toList, hYl]
        simp [Lib.byteCells, hx])
    rw [hds] at hus
    have hpos : (0 : Int) < s.size := by omega
    have hnz : ¬ (s.size : Int) = 0 := by omega
    have HYL : Hid (Y.toList = Lib.byteCells s.data.toList) := hYl
    clear hY hM hYl hds
    go_enter Tryd.func19, Tryd.ntmps19
    go_wp2
    go_ret
    exact ⟨rfl, Lib.below_freeze ((Below.refl _ _).alloc (Nat.le_refl _) _) (p := ⟨w.heap.size, 0, none⟩) (Nat.le_refl _) _⟩
set_option maxRecDepth 100000 in
set_option maxHeartbeats 400000 in
theorem clone_huge (s : ByteArray) (w : World) (hz : s.size ≤ 4000000) :
    Calls Tryd.prog 14 #[.string s] w fun e w' => e = .returned (.string s) ∧ Below w.heap.size w w' := by
  go_enter Tryd.func14, Tryd.ntmps14
  go_wp2_with (go_at_call 19; refine (cloneL_huge _ _ hz).mono ?_; rintro e w1 ⟨rfl, hb1⟩)
  go_ret
  exact ⟨rfl, hb1⟩
theorem clone_big (s : ByteArray) (w : World) (hz : s.size ≤ 1000) :
    Calls Tryd.prog 14 #[.string s] w fun e w' => e = .returned (.string s) ∧ Below w.heap.size w w' := clone_huge s w (by omega)
theorem clone_any (s : ByteArray) (w : World) (hz : s.size ≤ 16) :
    Calls Tryd.prog 14 #[.string s] w fun e w' => e = .returned (.string s) ∧ Below w.heap.size w w' := clone_big s w (by omega)
end Go.Proofs.YtghgcobnmmommaaDoor

namespace Go.Proofs.YtghgcobnmmommaaDoor
open Go.RowKit
set_option linter.unusedVariables false

/-- Codes, in memory. -/
def cellsC (cs : List (Int × Int)) : List Value := cs.flatMap fun c => [Value.int .i64 c.1, Value.int .i64 c.2]
theorem cellsC_snoc (cs : List (Int × Int)) (a b : Int) : cellsC (cs ++ [(a, b)]) = cellsC cs ++ [Value.int .i64 a, Value.int .i64 b] := by simp [cellsC]
theorem cellsC_cons (c : Int × Int) (cs : List (Int × Int)) : cellsC (c :: cs) = Value.int .i64 c.1 :: Value.int .i64 c.2 :: cellsC cs := by simp [cellsC]
theorem cellsC_length (cs : List (Int × Int)) : (cellsC cs).length = 2 * cs.length := by
  induction cs with
  | nil => rfl
  | cons c t ih => rw [cellsC_cons, List.length_cons, List.length_cons, ih, List.length_cons]; omega
theorem cellsC_at (cs : List (Int × Int)) (k : Nat) (h : k < cs.length) : (cellsC cs)[2 * k]? = some (.int .i64 cs[k].1) ∧ (cellsC cs)[2 * k + 1]? = some (.int .i64 cs[k].2) := by
  induction cs generalizing k with
  | nil => simp at h
  | cons c t ih =>
    cases k with
    | zero => simp [cellsC_cons]
    | succ k =>
      have := ih k (by simpa using h)
      rw [cellsC_cons, show 2 * (k + 1) = 2 * k + 1 + 1 by omega]
      simpa using this
/-- The code of a sign. -/
def codeOf (c : Int) : Int × Int := if sgn c < 24 then (sgn c, 5) else (96 + sgn c - 24, 7)
theorem not_row {W : World} {B : Nat} {t e : TypeId} {C : Array Value} {fr : Nat × Nat} (h : W.heap[B]? = some (.cells C t fr)) (hte : t ≠ e) {base size k : Nat} {v : Value} {xs : List Value} (hr : W.ownsRow base e size v k xs) : some B ≠ v.ownBlock := by
  rcases hr.2 with ⟨rfl, _⟩ | ⟨g, cap, cur, rfl, _, hgb, _⟩
  · simp [Value.ownBlock]
  · intro e'
    obtain rfl : B = g := by simpa [Value.ownBlock] using e'
    have := h.symm.trans hgb
    simp at this
    exact hte this.2.1
theorem blk_lt {W : World} {B : Nat} {o : Obj} (h : W.heap[B]? = some o) : B < W.heap.size := (Array.getElem?_eq_some_iff.1 h).1
theorem blk_alloc {W : World} {B : Nat} {o : Obj} (h : W.heap[B]? = some o) (o' : Obj) : (W.alloc o').heap[B]? = some o := by
  have := blk_lt h
  show (W.heap.push o')[B]? = _
  rw [Array.getElem?_push, if_neg (by omega)]
  exact h
theorem kept_app {W w3 : World} {tmp : Obj} {B : Nat} {t e : TypeId} {C : Array Value} {fr : Nat × Nat} (h : W.heap[B]? = some (.cells C t fr)) (hte : t ≠ e) {base size k : Nat} {v : Value} {xs : List Value} (hr : W.ownsRow base e size v k xs) (hgrow : (W.alloc tmp).grownBy w3 v.ownBlock) : w3.heap[B]? = some (.cells C t fr) :=
  (hgrow.block B (blk_lt (blk_alloc h tmp)) (not_row h hte hr)).trans (blk_alloc h tmp)
theorem own_zero2 (w : World) (e : TypeId) : (w.alloc (.cells #[] e)).ownsRow w.heap.size e 2 (.slice (some ⟨w.heap.size, 0, none⟩) 0 0) 0 [] :=
  ⟨rfl, .inr ⟨w.heap.size, 0, #[], rfl, Nat.le_refl _, by show (w.heap.push _)[w.heap.size]? = _; simp, Nat.le_refl _, by decide, rfl, rfl⟩⟩
theorem own_base {w : World} {b b' : Nat} {e : TypeId} {size : Nat} {v : Value} {n : Nat} {xs : List Value} (h : w.ownsRow b e size v n xs) (hb : b' ≤ b) : w.ownsRow b' e size v n xs := by
  refine ⟨h.1, ?_⟩
  rcases h.2 with h0 | ⟨g, cap, cur, h1, h2, h3⟩
  · exact .inl h0
  · exact .inr ⟨g, cap, cur, h1, Nat.le_trans hb h2, h3⟩
theorem own_below' {w w' : World} {base : Nat} {e : TypeId} {size : Nat} {v : Value} {n : Nat} {xs : List Value} (h : w.ownsRow base e size v n xs) (hb : Below w.heap.size w w') : w'.ownsRow base e size v n xs := by
  refine ⟨h.1, ?_⟩
  rcases h.2 with h0 | ⟨g, cap, cur, h1, h2, h3, h4⟩
  · exact .inl h0
  · exact .inr ⟨g, cap, cur, h1, h2, by rw [hb.block g (blk_lt h3)]; exact h3, h4⟩
theorem cell_two (w : World) (x y : Value) (e : TypeId) : ∀ j u, [x, y][j]? = some u → (w.alloc (.cells #[x, y] e)).cell? ((⟨w.heap.size, 0, none⟩ : Addr).add j) = some u := by
  intro j u hj
  rw [Addr.add_lit]
  match j, hj with
  | 0, hj => simp at hj; subst hj; simp
  | 1, hj => simp at hj; subst hj; simp
theorem two_cell (a b : Int) : ∀ u ∈ [Value.int .i64 a, Value.int .i64 b], u.oneCell' = true := by
  intro u hu; simp at hu; rcases hu with rfl | rfl <;> rfl

theorem two_all (a b : Int) : (#[.int .i64 a, .int .i64 b] : Array Value).all (·.oneCell') = true := by simp [Value.oneCell']

end Go.Proofs.YtghgcobnmmommaaDoor

namespace Go.Proofs.YtghgcobnmmommaaDoor
open Go.RowKit
set_option linter.unusedVariables false

/-- How many bits codes have. -/
def sumB : List (Int × Int) → Int
  | [] => 0
  | c :: t => c.2 + sumB t
theorem sumB_snoc (cs : List (Int × Int)) (c : Int × Int) : sumB (cs ++ [c]) = sumB cs + c.2 := by
  induction cs with
  | nil => simp [sumB]
  | cons a t ih => simp only [List.cons_append, sumB, ih]; omega
theorem sumB_bd (cs : List (Int × Int)) (h : ∀ c ∈ cs, 0 ≤ c.2 ∧ c.2 ≤ 8) : 0 ≤ sumB cs ∧ sumB cs ≤ 8 * cs.length := by
  induction cs with
  | nil => simp [sumB]
  | cons a t ih =>
    have h1 := h a (by simp)
    have h2 := ih (fun c hc => h c (by simp [hc]))
    simp only [sumB, List.length_cons]
    omega
end Go.Proofs.YtghgcobnmmommaaDoor
