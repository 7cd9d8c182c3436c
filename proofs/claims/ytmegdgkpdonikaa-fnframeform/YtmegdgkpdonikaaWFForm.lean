import Derived.Test.YtmegdgkpdonikaaFL0
import Derived.Test.YtmegdgkpdonikaaFI2
import Derived.Test.YtmegdgkpdonikaaFD2
import Derived.Deep.DeepCutAuto
import Derived.Deep.RegionHeld3
namespace Go.Proofs.Ytmegdgkpdonikaa
open Go.RowKit
set_option linter.unusedVariables false

theorem frOk_nine {k : Int} {l : Bool} {b : ByteArray} : frOk ⟨k, l, 9, b⟩ = false := by
  cases h : frOk ⟨k, l, 9, b⟩ with
  | false => rfl
  | true => have h1 := frOk_bd h; dsimp only at h1; omega
set_option maxRecDepth 100000 in
set_option maxHeartbeats 20000000 in
theorem fnFrameForm_walk (a0 : Option Addr) (len0 cap0 : Nat) (z0 : List Int) (w : World) (w0 : Row w a0 len0 cap0 z0) :
    Calls Try.prog 3 #[.slice a0 len0 cap0] w fun e w' => e = .returned (.bool true) ∧ Below w.heap.size w w' := by
  by_cases c0 : (1048576 : Int) < len0
  · clear w0
    go_enter Try.func3, Try.ntmps3
    go_wp2
    go_ret
    exact ⟨rfl, Below.refl _ _⟩
  have R0 : Hid (Row w a0 len0 cap0 z0) := w0
  clear w0
  go_enter Try.func3, Try.ntmps3
  go_wp2_with fail
  refine (drawFrameOk _ _ _ _ _ R0.out).mono ?_
  rintro e w1 ⟨f, rfl, hzf, hB⟩
  clear R0
  unfold Fr.val
  have hIO := fun w => implFrameOk f w (by unfold maxLen; omega)
  have hSO := fun w => specFrameOk f w (by unfold maxLen; omega)
  have hX := fun w => implFrameOk ⟨f.k, !f.l, f.s, f.b⟩ w (by show f.b.size ≤ maxLen; unfold maxLen; omega)
  have hY := fun w => implFrameOk ⟨f.k, f.l, 9, f.b⟩ w (by show f.b.size ≤ maxLen; unfold maxLen; omega)
  unfold Fr.val at hIO hSO hX hY
  dsimp only at hX hY
  cases hf : frOk f with
  | false =>
    rw [hf] at hIO hSO
    clear hf hX hY
    have hbA : Below w1.heap.size w1 (w1.alloc (.cells #[.int .i64 f.k, .bool f.l, .int .i64 f.s, .string f.b] 24)) := ((Below.refl _ _).alloc (Nat.le_refl _) _)
    replace hB := btF hB hbA
    clear hbA
    have C_f : (w1.alloc (.cells #[.int .i64 f.k, .bool f.l, .int .i64 f.s, .string f.b] 24)).heap[w1.heap.size]? = some (.cells #[.int .i64 f.k, .bool f.l, .int .i64 f.s, .string f.b] 24 (0, 0)) := heap_alloc_last w1 _
    obtain ⟨tf0, tf1, tf2, tf3⟩ := row4c C_f
    go_wp2_with fail
    refine (hIO _).mono ?_
    rintro e v1 ⟨rfl, hb⟩
    clear tf0 tf1 tf2 tf3
    replace C_f := blkF hb C_f
    replace hB := btF hB hb
    clear hb
    obtain ⟨tf0, tf1, tf2, tf3⟩ := row4c C_f
    go_wp2_with fail
    refine (hSO _).mono ?_
    rintro e v2 ⟨rfl, hb⟩
    clear tf0 tf1 tf2 tf3
    replace C_f := blkF hb C_f
    replace hB := btF hB hb
    clear hb
    obtain ⟨tf0, tf1, tf2, tf3⟩ := row4c C_f
    go_wp2_with fail
    refine (hSO _).mono ?_
    rintro e v3 ⟨rfl, hb⟩
    clear tf0 tf1 tf2 tf3
    replace C_f := blkF hb C_f
    replace hB := btF hB hb
    clear hb
    go_wp2
    go_ret
    exact ⟨rfl, hB⟩
  | true =>
    rw [hf] at hIO hSO
    have hp := frOk_parts hf
    obtain ⟨k, l, s, b⟩ := f
    dsimp only at hIO hSO hX hY hp hzf ⊢
    rw [frOk_nine] at hY
    clear hf
    have hs9 : s % 2 = 1 ∨ s = 0 := by
      rcases hp with ⟨_, h, _⟩ | ⟨_, h, _⟩ | ⟨_, h | h, _⟩
      · exact .inl (strm_bd h).2.2
      · exact .inl (strm_bd h).2.2
      · exact .inr h
      · exact .inl (strm_bd h).2.2
    rcases hp with ⟨h0, h1, h2⟩ | ⟨rfl, h1, rfl, h3⟩ | ⟨rfl, h1, rfl, h3⟩
    · rw [frOk_01 h0, h1, decide_eq_true h2] at hX
      have hm : s % 2 = 1 := (strm_bd h1).2.2
      have hm' : s.tmod 2 = 1 := by rw [Int.tmod_eq_emod_of_nonneg (by have := (strm_bd h1).1; omega)]; exact hm
      clear hs9 h1
      rcases h0 with rfl | rfl
      · cases l
        · rw [Bool.not_false] at hX
          have hbA : Below w1.heap.size w1 (w1.alloc (.cells #[.int .i64 0, .bool false, .int .i64 s, .string b] 24)) := ((Below.refl _ _).alloc (Nat.le_refl _) _)
          replace hB := btF hB hbA
          clear hbA
          have C_f : (w1.alloc (.cells #[.int .i64 0, .bool false, .int .i64 s, .string b] 24)).heap[w1.heap.size]? = some (.cells #[.int .i64 0, .bool false, .int .i64 s, .string b] 24 (0, 0)) := heap_alloc_last w1 _
          obtain ⟨tf0, tf1, tf2, tf3⟩ := row4c C_f
          go_wp2_with fail
          refine (hIO _).mono ?_
          rintro e v1 ⟨rfl, hb⟩
          clear tf0 tf1 tf2 tf3
          replace C_f := blkF hb C_f
          replace hB := btF hB hb
          clear hb
          obtain ⟨tf0, tf1, tf2, tf3⟩ := row4c C_f
          go_wp2_with fail
          refine (hSO _).mono ?_
          rintro e v2 ⟨rfl, hb⟩
          clear tf0 tf1 tf2 tf3
          replace C_f := blkF hb C_f
          replace hB := btF hB hb
          clear hb
          clear hIO hSO
          obtain ⟨tf0, tf1, tf2, tf3⟩ := row4c C_f
          have hbX : Below v2.heap.size v2 (v2.alloc (.cells #[.int .i64 0, .bool true, .int .i64 s, .string b] 24)) := ((Below.refl _ _).alloc (Nat.le_refl _) _)
          have hbY : Below (v2.alloc (.cells #[.int .i64 0, .bool true, .int .i64 s, .string b] 24)).heap.size (v2.alloc (.cells #[.int .i64 0, .bool true, .int .i64 s, .string b] 24)) ((v2.alloc (.cells #[.int .i64 0, .bool true, .int .i64 s, .string b] 24)).alloc (.cells #[.int .i64 0, .bool false, .int .i64 9, .string b] 24)) := ((Below.refl _ _).alloc (Nat.le_refl _) _)
          have hbXY := btF hbX hbY
          have C_x : ((v2.alloc (.cells #[.int .i64 0, .bool true, .int .i64 s, .string b] 24)).alloc (.cells #[.int .i64 0, .bool false, .int .i64 9, .string b] 24)).heap[v2.heap.size]? = some (.cells #[.int .i64 0, .bool true, .int .i64 s, .string b] 24 (0, 0)) := blkF hbY (heap_alloc_last v2 _)
          have C_y : ((v2.alloc (.cells #[.int .i64 0, .bool true, .int .i64 s, .string b] 24)).alloc (.cells #[.int .i64 0, .bool false, .int .i64 9, .string b] 24)).heap[v2.heap.size + 1]? = some (.cells #[.int .i64 0, .bool false, .int .i64 9, .string b] 24 (0, 0)) := by
            have h := heap_alloc_last (v2.alloc (.cells #[.int .i64 0, .bool true, .int .i64 s, .string b] 24)) (.cells #[.int .i64 0, .bool false, .int .i64 9, .string b] 24)
            rw [World.size_alloc] at h
            exact h
          have hlt : w1.heap.size < v2.heap.size := (Array.getElem?_eq_some_iff.1 C_f).1
          have hne : ¬ w1.heap.size = v2.heap.size := by omega
          have hne2 : ¬ w1.heap.size = v2.heap.size + 1 := by omega
          go_upto_region 14 with fail
          clear tf0 tf1 tf2 tf3
          clear hlt hne hne2
          replace C_f := blkF hbXY C_f
          replace hB := btF hB hbXY
          clear hbX hbY hbXY
          refine wabsF (fun U => U.heap[w1.heap.size]? = some (.cells #[.int .i64 0, .bool false, .int .i64 s, .string b] 24 (0, 0)) ∧ U.heap[v2.heap.size]? = some (.cells #[.int .i64 0, .bool true, .int .i64 s, .string b] 24 (0, 0)) ∧ U.heap[v2.heap.size + 1]? = some (.cells #[.int .i64 0, .bool false, .int .i64 9, .string b] 24 (0, 0)) ∧ Below w.heap.size w U) ⟨C_f, C_x, C_y, hB⟩ ?_
          clear C_f C_x C_y hB
          rintro U ⟨C_f, C_x, C_y, hB⟩
          obtain ⟨tx0, tx1, tx2, tx3⟩ := row4c C_x
          go_wp2_with fail
          refine (hX _).mono ?_
          rintro e v3 ⟨rfl, hb⟩
          clear tx0 tx1 tx2 tx3
          replace C_f := blkF hb C_f
          replace C_x := blkF hb C_x
          replace C_y := blkF hb C_y
          replace hB := btF hB hb
          clear hb
          clear hX
          obtain ⟨ty0, ty1, ty2, ty3⟩ := row4c C_y
          go_wp2_with fail
          refine (hY _).mono ?_
          rintro e v4 ⟨rfl, hb⟩
          clear ty0 ty1 ty2 ty3
          replace C_f := blkF hb C_f
          replace C_x := blkF hb C_x
          replace C_y := blkF hb C_y
          replace hB := btF hB hb
          clear hb
          clear hY
          obtain ⟨tf0, tf1, tf2, tf3⟩ := row4c C_f
          go_wp2
          go_ret
          exact ⟨rfl, hB⟩
        · rw [Bool.not_true] at hX
          have hbA : Below w1.heap.size w1 (w1.alloc (.cells #[.int .i64 0, .bool true, .int .i64 s, .string b] 24)) := ((Below.refl _ _).alloc (Nat.le_refl _) _)
          replace hB := btF hB hbA
          clear hbA
          have C_f : (w1.alloc (.cells #[.int .i64 0, .bool true, .int .i64 s, .string b] 24)).heap[w1.heap.size]? = some (.cells #[.int .i64 0, .bool true, .int .i64 s, .string b] 24 (0, 0)) := heap_alloc_last w1 _
          obtain ⟨tf0, tf1, tf2, tf3⟩ := row4c C_f
          go_wp2_with fail
          refine (hIO _).mono ?_
          rintro e v1 ⟨rfl, hb⟩
          clear tf0 tf1 tf2 tf3
          replace C_f := blkF hb C_f
          replace hB := btF hB hb
          clear hb
          obtain ⟨tf0, tf1, tf2, tf3⟩ := row4c C_f
          go_wp2_with fail
          refine (hSO _).mono ?_
          rintro e v2 ⟨rfl, hb⟩
          clear tf0 tf1 tf2 tf3
          replace C_f := blkF hb C_f
          replace hB := btF hB hb
          clear hb
          clear hIO hSO
          obtain ⟨tf0, tf1, tf2, tf3⟩ := row4c C_f
          have hbX : Below v2.heap.size v2 (v2.alloc (.cells #[.int .i64 0, .bool false, .int .i64 s, .string b] 24)) := ((Below.refl _ _).alloc (Nat.le_refl _) _)
          have hbY : Below (v2.alloc (.cells #[.int .i64 0, .bool false, .int .i64 s, .string b] 24)).heap.size (v2.alloc (.cells #[.int .i64 0, .bool false, .int .i64 s, .string b] 24)) ((v2.alloc (.cells #[.int .i64 0, .bool false, .int .i64 s, .string b] 24)).alloc (.cells #[.int .i64 0, .bool true, .int .i64 9, .string b] 24)) := ((Below.refl _ _).alloc (Nat.le_refl _) _)
          have hbXY := btF hbX hbY
          have C_x : ((v2.alloc (.cells #[.int .i64 0, .bool false, .int .i64 s, .string b] 24)).alloc (.cells #[.int .i64 0, .bool true, .int .i64 9, .string b] 24)).heap[v2.heap.size]? = some (.cells #[.int .i64 0, .bool false, .int .i64 s, .string b] 24 (0, 0)) := blkF hbY (heap_alloc_last v2 _)
          have C_y : ((v2.alloc (.cells #[.int .i64 0, .bool false, .int .i64 s, .string b] 24)).alloc (.cells #[.int .i64 0, .bool true, .int .i64 9, .string b] 24)).heap[v2.heap.size + 1]? = some (.cells #[.int .i64 0, .bool true, .int .i64 9, .string b] 24 (0, 0)) := by
            have h := heap_alloc_last (v2.alloc (.cells #[.int .i64 0, .bool false, .int .i64 s, .string b] 24)) (.cells #[.int .i64 0, .bool true, .int .i64 9, .string b] 24)
            rw [World.size_alloc] at h
            exact h
          have hlt : w1.heap.size < v2.heap.size := (Array.getElem?_eq_some_iff.1 C_f).1
          have hne : ¬ w1.heap.size = v2.heap.size := by omega
          have hne2 : ¬ w1.heap.size = v2.heap.size + 1 := by omega
          go_upto_region 14 with fail
          clear tf0 tf1 tf2 tf3
          clear hlt hne hne2
          replace C_f := blkF hbXY C_f
          replace hB := btF hB hbXY
          clear hbX hbY hbXY
          refine wabsF (fun U => U.heap[w1.heap.size]? = some (.cells #[.int .i64 0, .bool true, .int .i64 s, .string b] 24 (0, 0)) ∧ U.heap[v2.heap.size]? = some (.cells #[.int .i64 0, .bool false, .int .i64 s, .string b] 24 (0, 0)) ∧ U.heap[v2.heap.size + 1]? = some (.cells #[.int .i64 0, .bool true, .int .i64 9, .string b] 24 (0, 0)) ∧ Below w.heap.size w U) ⟨C_f, C_x, C_y, hB⟩ ?_
          clear C_f C_x C_y hB
          rintro U ⟨C_f, C_x, C_y, hB⟩
          obtain ⟨tx0, tx1, tx2, tx3⟩ := row4c C_x
          go_wp2_with fail
          refine (hX _).mono ?_
          rintro e v3 ⟨rfl, hb⟩
          clear tx0 tx1 tx2 tx3
          replace C_f := blkF hb C_f
          replace C_x := blkF hb C_x
          replace C_y := blkF hb C_y
          replace hB := btF hB hb
          clear hb
          clear hX
          obtain ⟨ty0, ty1, ty2, ty3⟩ := row4c C_y
          go_wp2_with fail
          refine (hY _).mono ?_
          rintro e v4 ⟨rfl, hb⟩
          clear ty0 ty1 ty2 ty3
          replace C_f := blkF hb C_f
          replace C_x := blkF hb C_x
          replace C_y := blkF hb C_y
          replace hB := btF hB hb
          clear hb
          clear hY
          obtain ⟨tf0, tf1, tf2, tf3⟩ := row4c C_f
          go_wp2
          go_ret
          exact ⟨rfl, hB⟩
      · cases l
        · rw [Bool.not_false] at hX
          have hbA : Below w1.heap.size w1 (w1.alloc (.cells #[.int .i64 1, .bool false, .int .i64 s, .string b] 24)) := ((Below.refl _ _).alloc (Nat.le_refl _) _)
          replace hB := btF hB hbA
          clear hbA
          have C_f : (w1.alloc (.cells #[.int .i64 1, .bool false, .int .i64 s, .string b] 24)).heap[w1.heap.size]? = some (.cells #[.int .i64 1, .bool false, .int .i64 s, .string b] 24 (0, 0)) := heap_alloc_last w1 _
          obtain ⟨tf0, tf1, tf2, tf3⟩ := row4c C_f
          go_wp2_with fail
          refine (hIO _).mono ?_
          rintro e v1 ⟨rfl, hb⟩
          clear tf0 tf1 tf2 tf3
          replace C_f := blkF hb C_f
          replace hB := btF hB hb
          clear hb
          obtain ⟨tf0, tf1, tf2, tf3⟩ := row4c C_f
          go_wp2_with fail
          refine (hSO _).mono ?_
          rintro e v2 ⟨rfl, hb⟩
          clear tf0 tf1 tf2 tf3
          replace C_f := blkF hb C_f
          replace hB := btF hB hb
          clear hb
          clear hIO hSO
          obtain ⟨tf0, tf1, tf2, tf3⟩ := row4c C_f
          have hbX : Below v2.heap.size v2 (v2.alloc (.cells #[.int .i64 1, .bool true, .int .i64 s, .string b] 24)) := ((Below.refl _ _).alloc (Nat.le_refl _) _)
          have hbY : Below (v2.alloc (.cells #[.int .i64 1, .bool true, .int .i64 s, .string b] 24)).heap.size (v2.alloc (.cells #[.int .i64 1, .bool true, .int .i64 s, .string b] 24)) ((v2.alloc (.cells #[.int .i64 1, .bool true, .int .i64 s, .string b] 24)).alloc (.cells #[.int .i64 1, .bool false, .int .i64 9, .string b] 24)) := ((Below.refl _ _).alloc (Nat.le_refl _) _)
          have hbXY := btF hbX hbY
          have C_x : ((v2.alloc (.cells #[.int .i64 1, .bool true, .int .i64 s, .string b] 24)).alloc (.cells #[.int .i64 1, .bool false, .int .i64 9, .string b] 24)).heap[v2.heap.size]? = some (.cells #[.int .i64 1, .bool true, .int .i64 s, .string b] 24 (0, 0)) := blkF hbY (heap_alloc_last v2 _)
          have C_y : ((v2.alloc (.cells #[.int .i64 1, .bool true, .int .i64 s, .string b] 24)).alloc (.cells #[.int .i64 1, .bool false, .int .i64 9, .string b] 24)).heap[v2.heap.size + 1]? = some (.cells #[.int .i64 1, .bool false, .int .i64 9, .string b] 24 (0, 0)) := by
            have h := heap_alloc_last (v2.alloc (.cells #[.int .i64 1, .bool true, .int .i64 s, .string b] 24)) (.cells #[.int .i64 1, .bool false, .int .i64 9, .string b] 24)
            rw [World.size_alloc] at h
            exact h
          have hlt : w1.heap.size < v2.heap.size := (Array.getElem?_eq_some_iff.1 C_f).1
          have hne : ¬ w1.heap.size = v2.heap.size := by omega
          have hne2 : ¬ w1.heap.size = v2.heap.size + 1 := by omega
          go_upto_region 14 with fail
          clear tf0 tf1 tf2 tf3
          clear hlt hne hne2
          replace C_f := blkF hbXY C_f
          replace hB := btF hB hbXY
          clear hbX hbY hbXY
          refine wabsF (fun U => U.heap[w1.heap.size]? = some (.cells #[.int .i64 1, .bool false, .int .i64 s, .string b] 24 (0, 0)) ∧ U.heap[v2.heap.size]? = some (.cells #[.int .i64 1, .bool true, .int .i64 s, .string b] 24 (0, 0)) ∧ U.heap[v2.heap.size + 1]? = some (.cells #[.int .i64 1, .bool false, .int .i64 9, .string b] 24 (0, 0)) ∧ Below w.heap.size w U) ⟨C_f, C_x, C_y, hB⟩ ?_
          clear C_f C_x C_y hB
          rintro U ⟨C_f, C_x, C_y, hB⟩
          obtain ⟨tx0, tx1, tx2, tx3⟩ := row4c C_x
          go_wp2_with fail
          refine (hX _).mono ?_
          rintro e v3 ⟨rfl, hb⟩
          clear tx0 tx1 tx2 tx3
          replace C_f := blkF hb C_f
          replace C_x := blkF hb C_x
          replace C_y := blkF hb C_y
          replace hB := btF hB hb
          clear hb
          clear hX
          obtain ⟨ty0, ty1, ty2, ty3⟩ := row4c C_y
          go_wp2_with fail
          refine (hY _).mono ?_
          rintro e v4 ⟨rfl, hb⟩
          clear ty0 ty1 ty2 ty3
          replace C_f := blkF hb C_f
          replace C_x := blkF hb C_x
          replace C_y := blkF hb C_y
          replace hB := btF hB hb
          clear hb
          clear hY
          obtain ⟨tf0, tf1, tf2, tf3⟩ := row4c C_f
          go_wp2
          go_ret
          exact ⟨rfl, hB⟩
        · rw [Bool.not_true] at hX
          have hbA : Below w1.heap.size w1 (w1.alloc (.cells #[.int .i64 1, .bool true, .int .i64 s, .string b] 24)) := ((Below.refl _ _).alloc (Nat.le_refl _) _)
          replace hB := btF hB hbA
          clear hbA
          have C_f : (w1.alloc (.cells #[.int .i64 1, .bool true, .int .i64 s, .string b] 24)).heap[w1.heap.size]? = some (.cells #[.int .i64 1, .bool true, .int .i64 s, .string b] 24 (0, 0)) := heap_alloc_last w1 _
          obtain ⟨tf0, tf1, tf2, tf3⟩ := row4c C_f
          go_wp2_with fail
          refine (hIO _).mono ?_
          rintro e v1 ⟨rfl, hb⟩
          clear tf0 tf1 tf2 tf3
          replace C_f := blkF hb C_f
          replace hB := btF hB hb
          clear hb
          obtain ⟨tf0, tf1, tf2, tf3⟩ := row4c C_f
          go_wp2_with fail
          refine (hSO _).mono ?_
          rintro e v2 ⟨rfl, hb⟩
          clear tf0 tf1 tf2 tf3
          replace C_f := blkF hb C_f
          replace hB := btF hB hb
          clear hb
          clear hIO hSO
          obtain ⟨tf0, tf1, tf2, tf3⟩ := row4c C_f
          have hbX : Below v2.heap.size v2 (v2.alloc (.cells #[.int .i64 1, .bool false, .int .i64 s, .string b] 24)) := ((Below.refl _ _).alloc (Nat.le_refl _) _)
          have hbY : Below (v2.alloc (.cells #[.int .i64 1, .bool false, .int .i64 s, .string b] 24)).heap.size (v2.alloc (.cells #[.int .i64 1, .bool false, .int .i64 s, .string b] 24)) ((v2.alloc (.cells #[.int .i64 1, .bool false, .int .i64 s, .string b] 24)).alloc (.cells #[.int .i64 1, .bool true, .int .i64 9, .string b] 24)) := ((Below.refl _ _).alloc (Nat.le_refl _) _)
          have hbXY := btF hbX hbY
          have C_x : ((v2.alloc (.cells #[.int .i64 1, .bool false, .int .i64 s, .string b] 24)).alloc (.cells #[.int .i64 1, .bool true, .int .i64 9, .string b] 24)).heap[v2.heap.size]? = some (.cells #[.int .i64 1, .bool false, .int .i64 s, .string b] 24 (0, 0)) := blkF hbY (heap_alloc_last v2 _)
          have C_y : ((v2.alloc (.cells #[.int .i64 1, .bool false, .int .i64 s, .string b] 24)).alloc (.cells #[.int .i64 1, .bool true, .int .i64 9, .string b] 24)).heap[v2.heap.size + 1]? = some (.cells #[.int .i64 1, .bool true, .int .i64 9, .string b] 24 (0, 0)) := by
            have h := heap_alloc_last (v2.alloc (.cells #[.int .i64 1, .bool false, .int .i64 s, .string b] 24)) (.cells #[.int .i64 1, .bool true, .int .i64 9, .string b] 24)
            rw [World.size_alloc] at h
            exact h
          have hlt : w1.heap.size < v2.heap.size := (Array.getElem?_eq_some_iff.1 C_f).1
          have hne : ¬ w1.heap.size = v2.heap.size := by omega
          have hne2 : ¬ w1.heap.size = v2.heap.size + 1 := by omega
          go_upto_region 14 with fail
          clear tf0 tf1 tf2 tf3
          clear hlt hne hne2
          replace C_f := blkF hbXY C_f
          replace hB := btF hB hbXY
          clear hbX hbY hbXY
          refine wabsF (fun U => U.heap[w1.heap.size]? = some (.cells #[.int .i64 1, .bool true, .int .i64 s, .string b] 24 (0, 0)) ∧ U.heap[v2.heap.size]? = some (.cells #[.int .i64 1, .bool false, .int .i64 s, .string b] 24 (0, 0)) ∧ U.heap[v2.heap.size + 1]? = some (.cells #[.int .i64 1, .bool true, .int .i64 9, .string b] 24 (0, 0)) ∧ Below w.heap.size w U) ⟨C_f, C_x, C_y, hB⟩ ?_
          clear C_f C_x C_y hB
          rintro U ⟨C_f, C_x, C_y, hB⟩
          obtain ⟨tx0, tx1, tx2, tx3⟩ := row4c C_x
          go_wp2_with fail
          refine (hX _).mono ?_
          rintro e v3 ⟨rfl, hb⟩
          clear tx0 tx1 tx2 tx3
          replace C_f := blkF hb C_f
          replace C_x := blkF hb C_x
          replace C_y := blkF hb C_y
          replace hB := btF hB hb
          clear hb
          clear hX
          obtain ⟨ty0, ty1, ty2, ty3⟩ := row4c C_y
          go_wp2_with fail
          refine (hY _).mono ?_
          rintro e v4 ⟨rfl, hb⟩
          clear ty0 ty1 ty2 ty3
          replace C_f := blkF hb C_f
          replace C_x := blkF hb C_x
          replace C_y := blkF hb C_y
          replace hB := btF hB hb
          clear hb
          clear hY
          obtain ⟨tf0, tf1, tf2, tf3⟩ := row4c C_f
          go_wp2
          go_ret
          exact ⟨rfl, hB⟩
    · rw [frOk_3, h1, Bool.not_false, Bool.not_true, Bool.false_and, Bool.and_false] at hX
      have hm : s % 2 = 1 := (strm_bd h1).2.2
      have hm' : s.tmod 2 = 1 := by rw [Int.tmod_eq_emod_of_nonneg (by have := (strm_bd h1).1; omega)]; exact hm
      have hem := isEmptyT h3
      clear hs9 h1
      have hbA : Below w1.heap.size w1 (w1.alloc (.cells #[.int .i64 3, .bool false, .int .i64 s, .string b] 24)) := ((Below.refl _ _).alloc (Nat.le_refl _) _)
      replace hB := btF hB hbA
      clear hbA
      have C_f : (w1.alloc (.cells #[.int .i64 3, .bool false, .int .i64 s, .string b] 24)).heap[w1.heap.size]? = some (.cells #[.int .i64 3, .bool false, .int .i64 s, .string b] 24 (0, 0)) := heap_alloc_last w1 _
      obtain ⟨tf0, tf1, tf2, tf3⟩ := row4c C_f
      go_wp2_with fail
      refine (hIO _).mono ?_
      rintro e v1 ⟨rfl, hb⟩
      clear tf0 tf1 tf2 tf3
      replace C_f := blkF hb C_f
      replace hB := btF hB hb
      clear hb
      obtain ⟨tf0, tf1, tf2, tf3⟩ := row4c C_f
      go_wp2_with fail
      refine (hSO _).mono ?_
      rintro e v2 ⟨rfl, hb⟩
      clear tf0 tf1 tf2 tf3
      replace C_f := blkF hb C_f
      replace hB := btF hB hb
      clear hb
      clear hIO hSO
      obtain ⟨tf0, tf1, tf2, tf3⟩ := row4c C_f
      have hbX : Below v2.heap.size v2 (v2.alloc (.cells #[.int .i64 3, .bool true, .int .i64 s, .string b] 24)) := ((Below.refl _ _).alloc (Nat.le_refl _) _)
      have hbY : Below (v2.alloc (.cells #[.int .i64 3, .bool true, .int .i64 s, .string b] 24)).heap.size (v2.alloc (.cells #[.int .i64 3, .bool true, .int .i64 s, .string b] 24)) ((v2.alloc (.cells #[.int .i64 3, .bool true, .int .i64 s, .string b] 24)).alloc (.cells #[.int .i64 3, .bool false, .int .i64 9, .string b] 24)) := ((Below.refl _ _).alloc (Nat.le_refl _) _)
      have hbXY := btF hbX hbY
      have C_x : ((v2.alloc (.cells #[.int .i64 3, .bool true, .int .i64 s, .string b] 24)).alloc (.cells #[.int .i64 3, .bool false, .int .i64 9, .string b] 24)).heap[v2.heap.size]? = some (.cells #[.int .i64 3, .bool true, .int .i64 s, .string b] 24 (0, 0)) := blkF hbY (heap_alloc_last v2 _)
      have C_y : ((v2.alloc (.cells #[.int .i64 3, .bool true, .int .i64 s, .string b] 24)).alloc (.cells #[.int .i64 3, .bool false, .int .i64 9, .string b] 24)).heap[v2.heap.size + 1]? = some (.cells #[.int .i64 3, .bool false, .int .i64 9, .string b] 24 (0, 0)) := by
        have h := heap_alloc_last (v2.alloc (.cells #[.int .i64 3, .bool true, .int .i64 s, .string b] 24)) (.cells #[.int .i64 3, .bool false, .int .i64 9, .string b] 24)
        rw [World.size_alloc] at h
        exact h
      have hlt : w1.heap.size < v2.heap.size := (Array.getElem?_eq_some_iff.1 C_f).1
      have hne : ¬ w1.heap.size = v2.heap.size := by omega
      have hne2 : ¬ w1.heap.size = v2.heap.size + 1 := by omega
      go_upto_region 14 with fail
      clear tf0 tf1 tf2 tf3
      clear hlt hne hne2
      replace C_f := blkF hbXY C_f
      replace hB := btF hB hbXY
      clear hbX hbY hbXY
      refine wabsF (fun U => U.heap[w1.heap.size]? = some (.cells #[.int .i64 3, .bool false, .int .i64 s, .string b] 24 (0, 0)) ∧ U.heap[v2.heap.size]? = some (.cells #[.int .i64 3, .bool true, .int .i64 s, .string b] 24 (0, 0)) ∧ U.heap[v2.heap.size + 1]? = some (.cells #[.int .i64 3, .bool false, .int .i64 9, .string b] 24 (0, 0)) ∧ Below w.heap.size w U) ⟨C_f, C_x, C_y, hB⟩ ?_
      clear C_f C_x C_y hB
      rintro U ⟨C_f, C_x, C_y, hB⟩
      obtain ⟨tx0, tx1, tx2, tx3⟩ := row4c C_x
      go_wp2_with fail
      refine (hX _).mono ?_
      rintro e v3 ⟨rfl, hb⟩
      clear tx0 tx1 tx2 tx3
      replace C_f := blkF hb C_f
      replace C_x := blkF hb C_x
      replace C_y := blkF hb C_y
      replace hB := btF hB hb
      clear hb
      clear hX
      obtain ⟨ty0, ty1, ty2, ty3⟩ := row4c C_y
      go_wp2_with fail
      refine (hY _).mono ?_
      rintro e v4 ⟨rfl, hb⟩
      clear ty0 ty1 ty2 ty3
      replace C_f := blkF hb C_f
      replace C_x := blkF hb C_x
      replace C_y := blkF hb C_y
      replace hB := btF hB hb
      clear hb
      clear hY
      obtain ⟨tf0, tf1, tf2, tf3⟩ := row4c C_f
      go_wp2
      go_ret
      exact ⟨rfl, hB⟩
    · rw [frOk_8, Bool.not_false, Bool.not_true, Bool.false_and, Bool.and_false] at hX
      have hz1 : (b.size : Int) = 1 := by have := (moreB_parts h3).1; omega
      clear h3
      rcases h1 with rfl | h1
      · clear hs9
        have hbA : Below w1.heap.size w1 (w1.alloc (.cells #[.int .i64 8, .bool false, .int .i64 0, .string b] 24)) := ((Below.refl _ _).alloc (Nat.le_refl _) _)
        replace hB := btF hB hbA
        clear hbA
        have C_f : (w1.alloc (.cells #[.int .i64 8, .bool false, .int .i64 0, .string b] 24)).heap[w1.heap.size]? = some (.cells #[.int .i64 8, .bool false, .int .i64 0, .string b] 24 (0, 0)) := heap_alloc_last w1 _
        obtain ⟨tf0, tf1, tf2, tf3⟩ := row4c C_f
        go_wp2_with fail
        refine (hIO _).mono ?_
        rintro e v1 ⟨rfl, hb⟩
        clear tf0 tf1 tf2 tf3
        replace C_f := blkF hb C_f
        replace hB := btF hB hb
        clear hb
        obtain ⟨tf0, tf1, tf2, tf3⟩ := row4c C_f
        go_wp2_with fail
        refine (hSO _).mono ?_
        rintro e v2 ⟨rfl, hb⟩
        clear tf0 tf1 tf2 tf3
        replace C_f := blkF hb C_f
        replace hB := btF hB hb
        clear hb
        clear hIO hSO
        obtain ⟨tf0, tf1, tf2, tf3⟩ := row4c C_f
        have hbX : Below v2.heap.size v2 (v2.alloc (.cells #[.int .i64 8, .bool true, .int .i64 0, .string b] 24)) := ((Below.refl _ _).alloc (Nat.le_refl _) _)
        have hbY : Below (v2.alloc (.cells #[.int .i64 8, .bool true, .int .i64 0, .string b] 24)).heap.size (v2.alloc (.cells #[.int .i64 8, .bool true, .int .i64 0, .string b] 24)) ((v2.alloc (.cells #[.int .i64 8, .bool true, .int .i64 0, .string b] 24)).alloc (.cells #[.int .i64 8, .bool false, .int .i64 9, .string b] 24)) := ((Below.refl _ _).alloc (Nat.le_refl _) _)
        have hbXY := btF hbX hbY
        have C_x : ((v2.alloc (.cells #[.int .i64 8, .bool true, .int .i64 0, .string b] 24)).alloc (.cells #[.int .i64 8, .bool false, .int .i64 9, .string b] 24)).heap[v2.heap.size]? = some (.cells #[.int .i64 8, .bool true, .int .i64 0, .string b] 24 (0, 0)) := blkF hbY (heap_alloc_last v2 _)
        have C_y : ((v2.alloc (.cells #[.int .i64 8, .bool true, .int .i64 0, .string b] 24)).alloc (.cells #[.int .i64 8, .bool false, .int .i64 9, .string b] 24)).heap[v2.heap.size + 1]? = some (.cells #[.int .i64 8, .bool false, .int .i64 9, .string b] 24 (0, 0)) := by
          have h := heap_alloc_last (v2.alloc (.cells #[.int .i64 8, .bool true, .int .i64 0, .string b] 24)) (.cells #[.int .i64 8, .bool false, .int .i64 9, .string b] 24)
          rw [World.size_alloc] at h
          exact h
        have hlt : w1.heap.size < v2.heap.size := (Array.getElem?_eq_some_iff.1 C_f).1
        have hne : ¬ w1.heap.size = v2.heap.size := by omega
        have hne2 : ¬ w1.heap.size = v2.heap.size + 1 := by omega
        go_upto_region 14 with fail
        clear tf0 tf1 tf2 tf3
        clear hlt hne hne2
        replace C_f := blkF hbXY C_f
        replace hB := btF hB hbXY
        clear hbX hbY hbXY
        refine wabsF (fun U => U.heap[w1.heap.size]? = some (.cells #[.int .i64 8, .bool false, .int .i64 0, .string b] 24 (0, 0)) ∧ U.heap[v2.heap.size]? = some (.cells #[.int .i64 8, .bool true, .int .i64 0, .string b] 24 (0, 0)) ∧ U.heap[v2.heap.size + 1]? = some (.cells #[.int .i64 8, .bool false, .int .i64 9, .string b] 24 (0, 0)) ∧ Below w.heap.size w U) ⟨C_f, C_x, C_y, hB⟩ ?_
        clear C_f C_x C_y hB
        rintro U ⟨C_f, C_x, C_y, hB⟩
        obtain ⟨tx0, tx1, tx2, tx3⟩ := row4c C_x
        go_wp2_with fail
        refine (hX _).mono ?_
        rintro e v3 ⟨rfl, hb⟩
        clear tx0 tx1 tx2 tx3
        replace C_f := blkF hb C_f
        replace C_x := blkF hb C_x
        replace C_y := blkF hb C_y
        replace hB := btF hB hb
        clear hb
        clear hX
        obtain ⟨ty0, ty1, ty2, ty3⟩ := row4c C_y
        go_wp2_with fail
        refine (hY _).mono ?_
        rintro e v4 ⟨rfl, hb⟩
        clear ty0 ty1 ty2 ty3
        replace C_f := blkF hb C_f
        replace C_x := blkF hb C_x
        replace C_y := blkF hb C_y
        replace hB := btF hB hb
        clear hb
        clear hY
        obtain ⟨tf0, tf1, tf2, tf3⟩ := row4c C_f
        go_wp2
        go_ret
        exact ⟨rfl, hB⟩
      · have hm : s % 2 = 1 := (strm_bd h1).2.2
        have hm' : s.tmod 2 = 1 := by rw [Int.tmod_eq_emod_of_nonneg (by have := (strm_bd h1).1; omega)]; exact hm
        clear hs9 h1
        have hbA : Below w1.heap.size w1 (w1.alloc (.cells #[.int .i64 8, .bool false, .int .i64 s, .string b] 24)) := ((Below.refl _ _).alloc (Nat.le_refl _) _)
        replace hB := btF hB hbA
        clear hbA
        have C_f : (w1.alloc (.cells #[.int .i64 8, .bool false, .int .i64 s, .string b] 24)).heap[w1.heap.size]? = some (.cells #[.int .i64 8, .bool false, .int .i64 s, .string b] 24 (0, 0)) := heap_alloc_last w1 _
        obtain ⟨tf0, tf1, tf2, tf3⟩ := row4c C_f
        go_wp2_with fail
        refine (hIO _).mono ?_
        rintro e v1 ⟨rfl, hb⟩
        clear tf0 tf1 tf2 tf3
        replace C_f := blkF hb C_f
        replace hB := btF hB hb
        clear hb
        obtain ⟨tf0, tf1, tf2, tf3⟩ := row4c C_f
        go_wp2_with fail
        refine (hSO _).mono ?_
        rintro e v2 ⟨rfl, hb⟩
        clear tf0 tf1 tf2 tf3
        replace C_f := blkF hb C_f
        replace hB := btF hB hb
        clear hb
        clear hIO hSO
        obtain ⟨tf0, tf1, tf2, tf3⟩ := row4c C_f
        have hbX : Below v2.heap.size v2 (v2.alloc (.cells #[.int .i64 8, .bool true, .int .i64 s, .string b] 24)) := ((Below.refl _ _).alloc (Nat.le_refl _) _)
        have hbY : Below (v2.alloc (.cells #[.int .i64 8, .bool true, .int .i64 s, .string b] 24)).heap.size (v2.alloc (.cells #[.int .i64 8, .bool true, .int .i64 s, .string b] 24)) ((v2.alloc (.cells #[.int .i64 8, .bool true, .int .i64 s, .string b] 24)).alloc (.cells #[.int .i64 8, .bool false, .int .i64 9, .string b] 24)) := ((Below.refl _ _).alloc (Nat.le_refl _) _)
        have hbXY := btF hbX hbY
        have C_x : ((v2.alloc (.cells #[.int .i64 8, .bool true, .int .i64 s, .string b] 24)).alloc (.cells #[.int .i64 8, .bool false, .int .i64 9, .string b] 24)).heap[v2.heap.size]? = some (.cells #[.int .i64 8, .bool true, .int .i64 s, .string b] 24 (0, 0)) := blkF hbY (heap_alloc_last v2 _)
        have C_y : ((v2.alloc (.cells #[.int .i64 8, .bool true, .int .i64 s, .string b] 24)).alloc (.cells #[.int .i64 8, .bool false, .int .i64 9, .string b] 24)).heap[v2.heap.size + 1]? = some (.cells #[.int .i64 8, .bool false, .int .i64 9, .string b] 24 (0, 0)) := by
          have h := heap_alloc_last (v2.alloc (.cells #[.int .i64 8, .bool true, .int .i64 s, .string b] 24)) (.cells #[.int .i64 8, .bool false, .int .i64 9, .string b] 24)
          rw [World.size_alloc] at h
          exact h
        have hlt : w1.heap.size < v2.heap.size := (Array.getElem?_eq_some_iff.1 C_f).1
        have hne : ¬ w1.heap.size = v2.heap.size := by omega
        have hne2 : ¬ w1.heap.size = v2.heap.size + 1 := by omega
        go_upto_region 14 with fail
        clear tf0 tf1 tf2 tf3
        clear hlt hne hne2
        replace C_f := blkF hbXY C_f
        replace hB := btF hB hbXY
        clear hbX hbY hbXY
        refine wabsF (fun U => U.heap[w1.heap.size]? = some (.cells #[.int .i64 8, .bool false, .int .i64 s, .string b] 24 (0, 0)) ∧ U.heap[v2.heap.size]? = some (.cells #[.int .i64 8, .bool true, .int .i64 s, .string b] 24 (0, 0)) ∧ U.heap[v2.heap.size + 1]? = some (.cells #[.int .i64 8, .bool false, .int .i64 9, .string b] 24 (0, 0)) ∧ Below w.heap.size w U) ⟨C_f, C_x, C_y, hB⟩ ?_
        clear C_f C_x C_y hB
        rintro U ⟨C_f, C_x, C_y, hB⟩
        obtain ⟨tx0, tx1, tx2, tx3⟩ := row4c C_x
        go_wp2_with fail
        refine (hX _).mono ?_
        rintro e v3 ⟨rfl, hb⟩
        clear tx0 tx1 tx2 tx3
        replace C_f := blkF hb C_f
        replace C_x := blkF hb C_x
        replace C_y := blkF hb C_y
        replace hB := btF hB hb
        clear hb
        clear hX
        obtain ⟨ty0, ty1, ty2, ty3⟩ := row4c C_y
        go_wp2_with fail
        refine (hY _).mono ?_
        rintro e v4 ⟨rfl, hb⟩
        clear ty0 ty1 ty2 ty3
        replace C_f := blkF hb C_f
        replace C_x := blkF hb C_x
        replace C_y := blkF hb C_y
        replace hB := btF hB hb
        clear hb
        clear hY
        obtain ⟨tf0, tf1, tf2, tf3⟩ := row4c C_f
        go_wp2
        go_ret
        exact ⟨rfl, hB⟩
end Go.Proofs.Ytmegdgkpdonikaa
