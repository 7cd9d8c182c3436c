import Derived.Test.YtafhpcgdlmkbeayImpB
import Derived.Lib.UnsafeStr
import Derived.Laws.MakeOwn
namespace Go.Proofs.Ytafhpcgdlmkbeay
open Go.RowKit
set_option linter.unusedVariables false

theorem info5v : (Try.prog.info? 5).map (fun i => (i.zero, i.size, i.bytes)) = some (some (.int .u8 0), 1, 1) := by kernel_rfl
set_option maxRecDepth 100000 in
set_option maxHeartbeats 400000 in
theorem cloneL_any (s : ByteArray) (w : World) (hz : s.size ≤ 16) :
    Calls Try.prog 62 #[.string s] w fun e w' => e = .returned (.string s) ∧ Below w.heap.size w w' := by
  by_cases h0 : s.size = 0
  · have hs : s = ⟨#[]⟩ := ByteArray.ext (Array.eq_empty_of_size_eq_zero h0)
    subst hs
    go_enter Try.func62, Try.ntmps62
    go_wp2
    go_ret
    exact ⟨rfl, Below.refl _ _⟩
  · obtain ⟨i5, hi5, h50, h51, h52⟩ := info_parts info5v
    have hco : Try.prog.cellsOf 5 = 1 := by simp [Program.cellsOf, hi5, h51]
    have hmk := run_make (P := Try.prog) w 76 5 i5 (.int .u8 0) Try.underlying76 hi5 h50 .i64 .i64 (s.size : Int) (s.size : Int) (by omega) (by omega) (by rw [h52]; omega) (by omega)
    obtain ⟨M, hM⟩ : ∃ M, madeCells (Value.int .u8 0).cells (((s.size : Nat) : Int).toNat * i5.size) = M := ⟨_, rfl⟩
    have hMs : M.size = s.size := by rw [← hM, size_madeCells, h51]; simp
    rw [hM, Int.toNat_natCast] at hmk
    have hcp := Lib.run_copy_row_string (P := Try.prog) (w.alloc (.cells M 5)) 76 9 3 5 w.heap.size 0 s.size s.size s M 5 Try.underlying76 (by kernel_rfl) (heap_alloc_last w _) (Nat.le_refl _) (by omega)
    rw [World.setRow_alloc_new] at hcp
    obtain ⟨Y, hY⟩ : ∃ Y, (M.toList.take 0 ++ Lib.byteCells s.data.toList ++ M.toList.drop (0 + s.size)).toArray = Y := ⟨_, rfl⟩
    rw [hY] at hcp
    have hYl : Y.toList = Lib.byteCells s.data.toList := by
      rw [← hY, List.toList_toArray, List.take_zero, List.nil_append, List.drop_of_length_le (by rw [Array.length_toList]; omega), List.append_nil]
    have hds : s.data.toList.length = s.size := by simp
    have hYs : Y.size = s.size := by rw [← Array.length_toList, hYl, Lib.byteCells_length, hds]
    have hne : s.data.toList ≠ [] := fun e => h0 (by rw [← hds, e]; rfl)
    have hus := Lib.run_unsafeString_row (P := Try.prog) (w.alloc (.cells Y 5)) 79 3 9 5 Try.underlying79 hco w.heap.size Y.size (by unfold World.shape?; rw [heap_alloc_last]) s.data.toList hne (by rw [hds]; omega) (by rw [hds]; omega)
      (fun j x hx => by
        rw [Addr.add_lit, Nat.zero_add, cell_of_row _ _ j Y 5 (0, 0) (heap_alloc_last w _), ← Array.getElem?_toList, hYl]
        simp [Lib.byteCells, hx])
    rw [hds] at hus
    have hpos : (0 : Int) < s.size := by omega
    have hnz : ¬ (s.size : Int) = 0 := by omega
    have HYL : Hid (Y.toList = Lib.byteCells s.data.toList) := hYl
    clear hY hM hYl hds
    go_enter Try.func62, Try.ntmps62
    go_wp2
    go_ret
    exact ⟨rfl, Lib.below_freeze ((Below.refl _ _).alloc (Nat.le_refl _) _) (p := ⟨w.heap.size, 0, none⟩) (Nat.le_refl _) _⟩
set_option maxRecDepth 100000 in
set_option maxHeartbeats 400000 in
theorem clone_any (s : ByteArray) (w : World) (hz : s.size ≤ 16) :
    Calls Try.prog 53 #[.string s] w fun e w' => e = .returned (.string s) ∧ Below w.heap.size w w' := by
  go_enter Try.func53, Try.ntmps53
  go_wp2_with (go_at_call 62; refine (cloneL_any _ _ hz).mono ?_; rintro e w1 ⟨rfl, hb1⟩)
  go_ret
  exact ⟨rfl, hb1⟩
end Go.Proofs.Ytafhpcgdlmkbeay
