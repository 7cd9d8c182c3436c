import Derived.Test.YtafhpcgdlmkbeayProg
import Derived.Test.YtafhpcgdlmkbeayWKit
import Derived.Lib.BufferWrite
import Derived.Deep.WholeRow
import Derived.Deep.QuietTactic
import Derived.BigQuiet
namespace Go.Proofs.Ytafhpcgdlmkbeay
open Go.RowKit
set_option linter.unusedVariables false

theorem bdrew {a w : World} {B : Nat} (h : Below B a w) (n : Nat) : Below B a (w.drewN n) := by
  obtain ⟨h1, h2, h3, h4, h5⟩ := h
  exact ⟨h1, h2, h3, h4, h5⟩

theorem or_all : ∀ n : Fin 256, bits .or .i64 ((n.val : Int) * 2) 0 = 2 * n.val + 0 ∧ bits .or .i64 ((n.val : Int) * 2) 1 = 2 * n.val + 1 := by decide +kernel
theorem or_bit (num b : Int) (h0 : 0 ≤ num) (h1 : num ≤ 255) (hb : b = 0 ∨ b = 1) : bits .or .i64 (num * 2) b = 2 * num + b := by
  obtain ⟨n, rfl⟩ := Int.eq_ofNat_of_zero_le h0
  have h := or_all ⟨n, by omega⟩
  rcases hb with rfl | rfl
  · exact h.1
  · exact h.2

/-- The signs, in memory. -/
def WSv : Array Value := #[.int .u8 101, .int .u8 116, .int .u8 97, .int .u8 111, .int .u8 105, .int .u8 110, .int .u8 115, .int .u8 114, .int .u8 104, .int .u8 108, .int .u8 48, .int .u8 49, .int .u8 50, .int .u8 51, .int .u8 52, .int .u8 53, .int .u8 54, .int .u8 55, .int .u8 56, .int .u8 57, .int .u8 100, .int .u8 99, .int .u8 117, .int .u8 109, .int .u8 102, .int .u8 112, .int .u8 103, .int .u8 119, .int .u8 121, .int .u8 98, .int .u8 118, .int .u8 107, .int .u8 120, .int .u8 106, .int .u8 113, .int .u8 122, .int .u8 58, .int .u8 47, .int .u8 45]
theorem WSv_size : WSv.size = 39 := rfl
theorem WSv_one : WSv.all (·.oneCell') = true := by kernel_rfl
theorem WSv_at (i : Nat) (h : i < 39) : WSv[i]? = some (.int .u8 (WS.getD i 0)) := by
  have e : WSv = (WS.map (Value.int .u8)).toArray := rfl
  rw [e]
  have h' : i < WS.length := by rw [WS_length]; exact h
  simp [List.getD_eq_getElem?_getD, List.getElem?_eq_getElem h']
theorem signs_cell (w : World) (g : Nat) (t : TypeId) (hg : w.heap[g]? = some (.cells WSv t (0, 0))) (i : Nat) (h : i < 39) : w.cell? ⟨g, i, none⟩ = some (.int .u8 (WS.getD i 0)) := by
  rw [cell_of_row w g i WSv t (0, 0) hg]
  exact WSv_at i h
theorem info49 : (Try.prog.info? 74).map (·.size) = some WSv.size := by kernel_rfl
theorem setRow_first (w : World) (c c' : Array Value) (t : TypeId) (o : Obj) : ((w.alloc (.cells c t)).alloc o).setRow w.heap.size c' = (w.alloc (.cells c' t)).alloc o := by
  simp only [World.setRow, World.alloc]
  congr 1
  apply Array.ext_getElem?
  intro i
  rw [Array.getElem?_modify]
  by_cases h : w.heap.size = i
  · subst h
    simp [Array.getElem?_push]
  · have h' : ¬ i = w.heap.size := fun e => h e.symm
    simp [h, h', Array.getElem?_push]
theorem heap_first (w : World) (o o' : Obj) : ((w.alloc o).alloc o').heap[w.heap.size]? = some o := by
  show ((w.heap.push o).push o')[w.heap.size]? = some o
  simp [Array.getElem?_push]
theorem copy_signs (w : World) (o : Obj) (cur : Array Value) (t : TypeId) (hc : cur.size = 39) :
    (Builtin.copy_ #[76, 9] 3 #[.slice (some ⟨w.heap.size + 1, 0, none⟩) 39 39, .string ⟨#[101, 116, 97, 111, 105, 110, 115, 114, 104, 108, 48, 49, 50, 51, 52, 53, 54, 55, 56, 57, 100, 99, 117, 109, 102, 112, 103, 119, 121, 98, 118, 107, 120, 106, 113, 122, 58, 47, 45]⟩]).run Try.prog ((w.alloc o).alloc (.cells cur t)) = .ok (.int .i64 39) ((w.alloc o).alloc (.cells WSv t)) := by
  have hs : w.heap.size + 1 = (w.alloc o).heap.size := by simp
  rw [hs, Lib.run_copy_row_string ((w.alloc o).alloc (.cells cur t)) 76 9 3 5 (w.alloc o).heap.size 0 39 39 _ cur t Try.underlying76 (by kernel_rfl) (heap_alloc_last (w.alloc o) _) (by decide) (by rw [hc]; decide)]
  rw [World.setRow_alloc_new]
  have e : (cur.toList.take 0 ++ Lib.byteCells (⟨#[101, 116, 97, 111, 105, 110, 115, 114, 104, 108, 48, 49, 50, 51, 52, 53, 54, 55, 56, 57, 100, 99, 117, 109, 102, 112, 103, 119, 121, 98, 118, 107, 120, 106, 113, 122, 58, 47, 45]⟩ : ByteArray).data.toList ++ cur.toList.drop (0 + 39)).toArray = WSv := by
    rw [List.drop_eq_nil_of_le (by simp [hc])]
    rfl
  rw [show (⟨#[101, 116, 97, 111, 105, 110, 115, 114, 104, 108, 48, 49, 50, 51, 52, 53, 54, 55, 56, 57, 100, 99, 117, 109, 102, 112, 103, 119, 121, 98, 118, 107, 120, 106, 113, 122, 58, 47, 45]⟩ : ByteArray).size = 39 from rfl, e]
  rfl
theorem setRow_below {B : Nat} {a w : World} (h : Below B a w) (g : Nat) (cs : Array Value) (hg : B ≤ g) : Below B a (w.setRow g cs) := by
  obtain ⟨h1, h2, h3, h4, h5⟩ := h
  refine ⟨h1, h2, h3, by simpa [World.setRow] using h4, fun k hk => ?_⟩
  rw [← h5 k hk]
  show (w.heap.modify g _)[k]? = _
  rw [Array.getElem?_modify, if_neg (by omega)]
set_option maxRecDepth 100000 in
set_option maxHeartbeats 1000000 in
set_option maxRecDepth 100000 in
theorem signArray_any (w : World) :
    Calls Try.prog 60 #[] w fun e w' => e = .returned (.agg WSv) ∧ Below w.heap.size w w' := by
  have hcp := copy_signs w
  go_enter Try.func60, Try.ntmps60
  go_wp2_with (first | (refine wpList_load_row rfl 74 _ rfl (w.heap.size + 1) rfl 74 WSv (0, 0) _ (by have := heap_alloc_last (w.alloc (.cells #[.int .u8 0, .int .u8 0, .int .u8 0, .int .u8 0, .int .u8 0, .int .u8 0, .int .u8 0, .int .u8 0, .int .u8 0, .int .u8 0, .int .u8 0, .int .u8 0, .int .u8 0, .int .u8 0, .int .u8 0, .int .u8 0, .int .u8 0, .int .u8 0, .int .u8 0, .int .u8 0, .int .u8 0, .int .u8 0, .int .u8 0, .int .u8 0, .int .u8 0, .int .u8 0, .int .u8 0, .int .u8 0, .int .u8 0, .int .u8 0, .int .u8 0, .int .u8 0, .int .u8 0, .int .u8 0, .int .u8 0, .int .u8 0, .int .u8 0, .int .u8 0, .int .u8 0] 74)) (.cells WSv 74); simpa using this) Try.underlying74 rfl info49 ?_) | (refine wpList_store_row rfl 74 _ _ rfl w.heap.size WSv rfl rfl 74 _ (heap_first w _ _) info49 rfl WSv_one ?_))
  refine bodyPost_ret (results_cell_row rfl _ _ w.heap.size 74 WSv (0, 0) _ rfl (setRow_heap _ _ _ _ _ _ (heap_first w _ _)) Try.underlying74 rfl info49) rfl ⟨rfl, setRow_below (((Below.refl _ _).alloc (Nat.le_refl _) _).alloc (by simp) _) _ _ (Nat.le_refl _)⟩
end Go.Proofs.Ytafhpcgdlmkbeay
