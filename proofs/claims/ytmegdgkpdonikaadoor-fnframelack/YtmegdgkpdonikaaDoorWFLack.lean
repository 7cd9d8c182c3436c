import Derived.Test.YtmegdgkpdonikaaDoorFL0
import Derived.Test.YtmegdgkpdonikaaDoorFI
import Derived.Test.YtmegdgkpdonikaaDoorFD
import Derived.Deep.DeepCutAuto
import Derived.Deep.RegionHeld3
namespace Go.Proofs.YtmegdgkpdonikaaDoor
open Go.RowKit
set_option linter.unusedVariables false

set_option maxRecDepth 100000 in
set_option maxHeartbeats 20000000 in
theorem fnFrameLack_walk (a0 : Option Addr) (len0 cap0 : Nat) (z0 : List Int) (a1 : Option Addr) (len1 cap1 : Nat) (z1 : List Int) (w : World) (hG : GL w) (w0 : Row w a0 len0 cap0 z0) (w1 : Row w a1 len1 cap1 z1) :
    Calls Tryd.prog 5 #[.slice a0 len0 cap0, .slice a1 len1 cap1] w fun e w' => e = .returned (.bool true) ∧ Below w.heap.size w w' := by
  by_cases c0 : (1048576 : Int) < len0
  · clear w0 w1
    go_enter Tryd.func5, Tryd.ntmps5
    go_wp2
    go_ret
    exact ⟨rfl, Below.refl _ _⟩
  by_cases c1 : (1048576 : Int) < len1
  · clear w0 w1
    go_enter Tryd.func5, Tryd.ntmps5
    go_wp2
    go_ret
    exact ⟨rfl, Below.refl _ _⟩
  have R0 : Hid (Row w a0 len0 cap0 z0) := w0
  have R1 : Hid (Row w a1 len1 cap1 z1) := w1
  clear w0 w1
  go_enter Tryd.func5, Tryd.ntmps5
  go_wp2_with fail
  refine (drawFrameWrite _ _ _ _ _ R0.out).mono ?_
  rintro e w1 ⟨f, rfl, hzf, hB⟩
  clear R0 R1
  unfold Fr.val
  have hbA : Below w1.heap.size w1 (w1.alloc (.cells #[.int .i64 f.k, .bool f.l, .int .i64 f.s, .string f.b] 24)) := ((Below.refl _ _).alloc (Nat.le_refl _) _)
  replace hB := btF hB hbA
  clear hbA
  have C_f : (w1.alloc (.cells #[.int .i64 f.k, .bool f.l, .int .i64 f.s, .string f.b] 24)).heap[w1.heap.size]? = some (.cells #[.int .i64 f.k, .bool f.l, .int .i64 f.s, .string f.b] 24 (0, 0)) := heap_alloc_last w1 _
  have hIW := fun w => implFrameWrite f w (by unfold maxLen; omega)
  have hSW := fun w => specFrameWrite f w (by unfold maxLen; omega)
  unfold Fr.val at hIW hSW
  cases hf : frOk f with
  | false =>
    rw [frWr_bad hf] at hIW hSW
    clear hf
    obtain ⟨tf0, tf1, tf2, tf3⟩ := row4c C_f
    go_wp2_with fail
    refine (hIW _).mono ?_
    rintro e v1 ⟨rfl, hb⟩
    clear tf0 tf1 tf2 tf3
    replace C_f := blkF hb C_f
    replace hB := btF hB hb
    clear hb
    obtain ⟨tf0, tf1, tf2, tf3⟩ := row4c C_f
    go_wp2_with fail
    refine (hSW _).mono ?_
    rintro e v2 ⟨rfl, hb⟩
    clear tf0 tf1 tf2 tf3
    replace C_f := blkF hb C_f
    replace hB := btF hB hb
    clear hb
    obtain ⟨tf0, tf1, tf2, tf3⟩ := row4c C_f
    go_wp2_with fail
    refine (hSW _).mono ?_
    rintro e v3 ⟨rfl, hb⟩
    clear tf0 tf1 tf2 tf3
    replace C_f := blkF hb C_f
    replace hB := btF hB hb
    clear hb
    go_wp2
    go_ret
    exact ⟨rfl, hB⟩
  | true =>
    rw [frWr_ok hf] at hIW hSW
    obtain ⟨S, hSS⟩ : ∃ S, frB f = S := ⟨_, rfl⟩
    have hzS : (S.size : Int) = 4 + f.b.size := by rw [← hSS, frB_size]; omega
    have hznS : S.size ≤ 204 := by have := frOk_bd hf; omega
    have hneS := isEmpty_false (s := S) (by omega)
    rw [hSS] at hIW hSW
    have hnz : ¬ (S.size : Int) = 0 := by omega
    obtain ⟨m, hm⟩ : ∃ m : Int, (len1 : Int).tmod S.size = m := ⟨_, rfl⟩
    have hm' : (len1 : Int) % S.size = m := by rw [← hm, Int.tmod_eq_emod_of_nonneg (by omega)]
    have hm0 : 0 ≤ m := by rw [← hm']; exact Int.emod_nonneg _ hnz
    have hm1 : m < S.size := by have := Int.emod_lt_of_pos (len1 : Int) (show 0 < (S.size : Int) by omega); omega
    obtain ⟨k, rfl⟩ : ∃ k : Nat, m = (k : Int) := ⟨m.toNat, by omega⟩
    have hlk := frRd_lack hf (k := k) (by omega)
    rw [hSS] at hlk
    have hsl : ∀ W : World, (Instr.slice 9 (.string S) none (some (.int .i64 (k : Int))) none).run Tryd.prog W = .ok (.string (S.extract 0 k)) W := fun W => by
      have h := run_slice_string_h (P := Tryd.prog) W 9 S Tryd.underlying9 .i64 (k : Int) (by omega) (by omega)
      rw [Int.toNat_natCast] at h
      exact h
    have hz2 : (S.extract 0 k).size ≤ 204 := by rw [ByteArray.size_extract]; omega
    obtain ⟨t, ht⟩ : ∃ t, S.extract 0 k = t := ⟨_, rfl⟩
    rw [ht] at hlk hsl hz2
    have hR1 := fun W (hb : Below w.heap.size w W) => implFrameRead t W (hG.below hb) (by unfold maxLen; omega)
    rw [hlk] at hR1
    unfold Fr.val at hR1
    dsimp only at hR1
    have hR2 := fun W (hb : Below w.heap.size w W) => implFrameRead ⟨#[]⟩ W (hG.below hb) (by decide)
    rw [frRd_none] at hR2
    unfold Fr.val at hR2
    dsimp only at hR2
    unfold zFr at hR1 hR2
    dsimp only at hR1 hR2
    have HZS : Hid _ := hzS
    clear hzS hf hSS hlk ht
    obtain ⟨tf0, tf1, tf2, tf3⟩ := row4c C_f
    go_wp2_with fail
    refine (hIW _).mono ?_
    rintro e v1 ⟨rfl, hb⟩
    clear tf0 tf1 tf2 tf3
    replace C_f := blkF hb C_f
    replace hB := btF hB hb
    clear hb
    obtain ⟨tf0, tf1, tf2, tf3⟩ := row4c C_f
    go_wp2_with fail
    refine (hSW _).mono ?_
    rintro e v2 ⟨rfl, hb⟩
    clear tf0 tf1 tf2 tf3
    replace C_f := blkF hb C_f
    replace hB := btF hB hb
    clear hb
    clear hIW hSW
    go_wp2_with fail
    refine (hR1 _ hB).mono ?_
    rintro e v3 ⟨rfl, hb⟩
    replace C_f := blkF hb C_f
    replace hB := btF hB hb
    clear hb
    clear hR1
    have hbA : Below v3.heap.size v3 (v3.alloc (.cells #[.int .i64 0, .bool false, .int .i64 0, .string ⟨#[]⟩] 24)) := ((Below.refl _ _).alloc (Nat.le_refl _) _)
    replace C_f := blkF hbA C_f
    replace hB := btF hB hbA
    clear hbA
    have C_x : (v3.alloc (.cells #[.int .i64 0, .bool false, .int .i64 0, .string ⟨#[]⟩] 24)).heap[v3.heap.size]? = some (.cells #[.int .i64 0, .bool false, .int .i64 0, .string ⟨#[]⟩] 24 (0, 0)) := heap_alloc_last v3 _
    go_wp2_with fail
    refine (hR2 _ hB).mono ?_
    rintro e v4 ⟨rfl, hb⟩
    replace C_f := blkF hb C_f
    replace C_x := blkF hb C_x
    replace hB := btF hB hb
    clear hb
    clear hR2
    have hbA : Below v4.heap.size v4 (v4.alloc (.cells #[.int .i64 0, .bool false, .int .i64 0, .string ⟨#[]⟩] 24)) := ((Below.refl _ _).alloc (Nat.le_refl _) _)
    replace C_f := blkF hbA C_f
    replace C_x := blkF hbA C_x
    replace hB := btF hB hbA
    clear hbA
    have C_y : (v4.alloc (.cells #[.int .i64 0, .bool false, .int .i64 0, .string ⟨#[]⟩] 24)).heap[v4.heap.size]? = some (.cells #[.int .i64 0, .bool false, .int .i64 0, .string ⟨#[]⟩] 24 (0, 0)) := heap_alloc_last v4 _
    go_wp2
    go_ret
    exact ⟨rfl, hB⟩
end Go.Proofs.YtmegdgkpdonikaaDoor
