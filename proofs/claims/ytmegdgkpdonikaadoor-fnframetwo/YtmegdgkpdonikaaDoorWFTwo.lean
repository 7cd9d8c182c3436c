import Derived.Test.YtmegdgkpdonikaaDoorFL0
import Derived.Test.YtmegdgkpdonikaaDoorFI
import Derived.Test.YtmegdgkpdonikaaDoorFD
import Derived.Deep.DeepCutAuto
import Derived.Deep.RegionHeld3
namespace Go.Proofs.YtmegdgkpdonikaaDoor
open Go.RowKit
set_option linter.unusedVariables false

set_option maxRecDepth 100000 in
set_option maxHeartbeats 20000000 in
theorem fnFrameTwo_walk (a0 : Option Addr) (len0 cap0 : Nat) (z0 : List Int) (a1 : Option Addr) (len1 cap1 : Nat) (z1 : List Int) (w : World) (hG : GL w) (w0 : Row w a0 len0 cap0 z0) (w1 : Row w a1 len1 cap1 z1) :
    Calls Tryd.prog 6 #[.slice a0 len0 cap0, .slice a1 len1 cap1] w fun e w' => e = .returned (.bool true) ∧ Below w.heap.size w w' := by
  by_cases c0 : (1048576 : Int) < len0
  · clear w0 w1
    go_enter Tryd.func6, Tryd.ntmps6
    go_wp2
    go_ret
    exact ⟨rfl, Below.refl _ _⟩
  by_cases c1 : (1048576 : Int) < len1
  · clear w0 w1
    go_enter Tryd.func6, Tryd.ntmps6
    go_wp2
    go_ret
    exact ⟨rfl, Below.refl _ _⟩
  have R0 : Hid (Row w a0 len0 cap0 z0) := w0
  have R1 : Hid (Row w a1 len1 cap1 z1) := w1
  clear w0 w1
  go_enter Tryd.func6, Tryd.ntmps6
  go_wp2_with fail
  refine (drawFrameWrite _ _ _ _ _ R0.out).mono ?_
  rintro e w1 ⟨f, rfl, hzf, hB⟩
  clear R0
  unfold Fr.val
  have hbA : Below w1.heap.size w1 (w1.alloc (.cells #[.int .i64 f.k, .bool f.l, .int .i64 f.s, .string f.b] 24)) := ((Below.refl _ _).alloc (Nat.le_refl _) _)
  replace hB := btF hB hbA
  clear hbA
  have C_f : (w1.alloc (.cells #[.int .i64 f.k, .bool f.l, .int .i64 f.s, .string f.b] 24)).heap[w1.heap.size]? = some (.cells #[.int .i64 f.k, .bool f.l, .int .i64 f.s, .string f.b] 24 (0, 0)) := heap_alloc_last w1 _
  go_wp2_with fail
  refine (drawFrameOk _ _ _ _ _ (R1.out.below hB)).mono ?_
  rintro e w2 ⟨g, rfl, hzg, hb⟩
  clear R1
  unfold Fr.val
  replace C_f := blkF hb C_f
  replace hB := btF hB hb
  clear hb
  have hbA : Below w2.heap.size w2 (w2.alloc (.cells #[.int .i64 g.k, .bool g.l, .int .i64 g.s, .string g.b] 24)) := ((Below.refl _ _).alloc (Nat.le_refl _) _)
  replace C_f := blkF hbA C_f
  replace hB := btF hB hbA
  clear hbA
  have C_g : (w2.alloc (.cells #[.int .i64 g.k, .bool g.l, .int .i64 g.s, .string g.b] 24)).heap[w2.heap.size]? = some (.cells #[.int .i64 g.k, .bool g.l, .int .i64 g.s, .string g.b] 24 (0, 0)) := heap_alloc_last w2 _
  have hIW := fun w => implFrameWrite f w (by unfold maxLen; omega)
  have hSW := fun w => specFrameWrite f w (by unfold maxLen; omega)
  unfold Fr.val at hIW hSW
  have hIW2 := fun w => implFrameWrite g w (by unfold maxLen; omega)
  have hSW2 := fun w => specFrameWrite g w (by unfold maxLen; omega)
  unfold Fr.val at hIW2 hSW2
  cases hf : frOk f with
  | false =>
    rw [frWr_bad hf] at hIW hSW
    obtain ⟨T, hT⟩ : ∃ T, frWr g = T := ⟨_, rfl⟩
    rw [hT] at hIW2
    clear hf hT hSW2
    obtain ⟨tf0, tf1, tf2, tf3⟩ := row4c C_f
    go_wp2_with fail
    refine (hIW _).mono ?_
    rintro e v1 ⟨rfl, hb⟩
    clear tf0 tf1 tf2 tf3
    replace C_f := blkF hb C_f
    replace C_g := blkF hb C_g
    replace hB := btF hB hb
    clear hb
    obtain ⟨tg0, tg1, tg2, tg3⟩ := row4c C_g
    go_wp2_with fail
    refine (hIW2 _).mono ?_
    rintro e v2 ⟨rfl, hb⟩
    clear tg0 tg1 tg2 tg3
    replace C_f := blkF hb C_f
    replace C_g := blkF hb C_g
    replace hB := btF hB hb
    clear hb
    obtain ⟨tf0, tf1, tf2, tf3⟩ := row4c C_f
    go_wp2_with fail
    refine (hSW _).mono ?_
    rintro e v3 ⟨rfl, hb⟩
    clear tf0 tf1 tf2 tf3
    replace C_f := blkF hb C_f
    replace C_g := blkF hb C_g
    replace hB := btF hB hb
    clear hb
    obtain ⟨tf0, tf1, tf2, tf3⟩ := row4c C_f
    go_wp2_with fail
    refine (hSW _).mono ?_
    rintro e v4 ⟨rfl, hb⟩
    clear tf0 tf1 tf2 tf3
    replace C_f := blkF hb C_f
    replace C_g := blkF hb C_g
    replace hB := btF hB hb
    clear hb
    go_wp2
    go_ret
    exact ⟨rfl, hB⟩
  | true =>
    rw [frWr_ok hf] at hIW hSW
    obtain ⟨S, hSS⟩ : ∃ S, frB f = S := ⟨_, rfl⟩
    have hzS : (S.size : Int) = 4 + f.b.size := by rw [← hSS, frB_size]; omega
    have hznS : S.size ≤ 204 := by have := frOk_bd hf; omega
    have hneS := isEmpty_false (s := S) (by omega)
    rw [hSS] at hIW hSW
    cases hg : frOk g with
    | false =>
      rw [frWr_bad hg] at hIW2
      clear hf hg hSW2 hSS
      obtain ⟨tf0, tf1, tf2, tf3⟩ := row4c C_f
      go_wp2_with fail
      refine (hIW _).mono ?_
      rintro e v1 ⟨rfl, hb⟩
      clear tf0 tf1 tf2 tf3
      replace C_f := blkF hb C_f
      replace C_g := blkF hb C_g
      replace hB := btF hB hb
      clear hb
      obtain ⟨tg0, tg1, tg2, tg3⟩ := row4c C_g
      go_wp2_with fail
      refine (hIW2 _).mono ?_
      rintro e v2 ⟨rfl, hb⟩
      clear tg0 tg1 tg2 tg3
      replace C_f := blkF hb C_f
      replace C_g := blkF hb C_g
      replace hB := btF hB hb
      clear hb
      obtain ⟨tf0, tf1, tf2, tf3⟩ := row4c C_f
      go_wp2_with fail
      refine (hSW _).mono ?_
      rintro e v3 ⟨rfl, hb⟩
      clear tf0 tf1 tf2 tf3
      replace C_f := blkF hb C_f
      replace C_g := blkF hb C_g
      replace hB := btF hB hb
      clear hb
      obtain ⟨tf0, tf1, tf2, tf3⟩ := row4c C_f
      go_wp2_with fail
      refine (hSW _).mono ?_
      rintro e v4 ⟨rfl, hb⟩
      clear tf0 tf1 tf2 tf3
      replace C_f := blkF hb C_f
      replace C_g := blkF hb C_g
      replace hB := btF hB hb
      clear hb
      go_wp2
      go_ret
      exact ⟨rfl, hB⟩
    | true =>
      rw [frWr_ok hg] at hIW2
      obtain ⟨T, hST⟩ : ∃ T, frB g = T := ⟨_, rfl⟩
      have hzT : (T.size : Int) = 4 + g.b.size := by rw [← hST, frB_size]; omega
      have hznT : T.size ≤ 204 := by have := frOk_bd hg; omega
      have hneT := isEmpty_false (s := T) (by omega)
      rw [hST] at hIW2
      clear hSW2
      have hRB := frRd_back hf T
      have hRO := frRd_own hg
      rw [hSS] at hRB
      rw [hST] at hRO
      have g1 : ¬ 9223372036854775807 < S.size + T.size := by omega
      have g2 : S.size + T.size ≤ 9223372036854775807 := by omega
      have hex := ext_right S T
      have hsl : ∀ W : World, (Instr.slice 9 (.string (S ++ T)) (some (.int .i64 (4 + (f.b.size : Int)))) none none).run Tryd.prog W = .ok (.string T) W := fun W => by
        have h := run_slice_string_l (P := Tryd.prog) W 9 (S ++ T) Tryd.underlying9 .i64 (4 + (f.b.size : Int)) (by omega) (by rw [ByteArray.size_append]; omega)
        rw [ByteArray.size_append, show (4 + (f.b.size : Int)).toNat = S.size by omega, hex] at h
        exact h
      have hR1 := fun W (hb : Below w.heap.size w W) => implFrameRead (S ++ T) W (hG.below hb) (by unfold maxLen; rw [ByteArray.size_append]; omega)
      rw [hRB] at hR1
      have hR2 := fun W (hb : Below w.heap.size w W) => implFrameRead T W (hG.below hb) (by unfold maxLen; omega)
      rw [hRO] at hR2
      unfold Fr.val at hR1 hR2
      dsimp only at hR1 hR2
      have heq := eqFr_run f f
      rw [eqFr_self] at heq
      have heq2 := eqFr_run g g
      rw [eqFr_self] at heq2
      clear hf hg hSS hST hRB hRO hex
      obtain ⟨tf0, tf1, tf2, tf3⟩ := row4c C_f
      go_wp2_with fail
      refine (hIW _).mono ?_
      rintro e v1 ⟨rfl, hb⟩
      clear tf0 tf1 tf2 tf3
      replace C_f := blkF hb C_f
      replace C_g := blkF hb C_g
      replace hB := btF hB hb
      clear hb
      obtain ⟨tg0, tg1, tg2, tg3⟩ := row4c C_g
      go_wp2_with fail
      refine (hIW2 _).mono ?_
      rintro e v2 ⟨rfl, hb⟩
      clear tg0 tg1 tg2 tg3
      replace C_f := blkF hb C_f
      replace C_g := blkF hb C_g
      replace hB := btF hB hb
      clear hb
      obtain ⟨tf0, tf1, tf2, tf3⟩ := row4c C_f
      go_wp2_with fail
      refine (hSW _).mono ?_
      rintro e v3 ⟨rfl, hb⟩
      clear tf0 tf1 tf2 tf3
      replace C_f := blkF hb C_f
      replace C_g := blkF hb C_g
      replace hB := btF hB hb
      clear hb
      clear hIW hSW hIW2
      go_wp2_with fail
      refine (hR1 _ hB).mono ?_
      rintro e v4 ⟨rfl, hb⟩
      replace C_f := blkF hb C_f
      replace C_g := blkF hb C_g
      replace hB := btF hB hb
      clear hb
      clear hR1
      have hbA : Below v4.heap.size v4 (v4.alloc (.cells #[.int .i64 f.k, .bool f.l, .int .i64 f.s, .string f.b] 24)) := ((Below.refl _ _).alloc (Nat.le_refl _) _)
      replace C_f := blkF hbA C_f
      replace C_g := blkF hbA C_g
      replace hB := btF hB hbA
      clear hbA
      have C_x : (v4.alloc (.cells #[.int .i64 f.k, .bool f.l, .int .i64 f.s, .string f.b] 24)).heap[v4.heap.size]? = some (.cells #[.int .i64 f.k, .bool f.l, .int .i64 f.s, .string f.b] 24 (0, 0)) := heap_alloc_last v4 _
      go_wp2_with fail
      refine (hR2 _ hB).mono ?_
      rintro e v5 ⟨rfl, hb⟩
      replace C_f := blkF hb C_f
      replace C_g := blkF hb C_g
      replace C_x := blkF hb C_x
      replace hB := btF hB hb
      clear hb
      clear hR2
      have hbA : Below v5.heap.size v5 (v5.alloc (.cells #[.int .i64 g.k, .bool g.l, .int .i64 g.s, .string g.b] 24)) := ((Below.refl _ _).alloc (Nat.le_refl _) _)
      replace C_f := blkF hbA C_f
      replace C_g := blkF hbA C_g
      replace C_x := blkF hbA C_x
      replace hB := btF hB hbA
      clear hbA
      have C_y : (v5.alloc (.cells #[.int .i64 g.k, .bool g.l, .int .i64 g.s, .string g.b] 24)).heap[v5.heap.size]? = some (.cells #[.int .i64 g.k, .bool g.l, .int .i64 g.s, .string g.b] 24 (0, 0)) := heap_alloc_last v5 _
      obtain ⟨tf0, tf1, tf2, tf3⟩ := row4c C_f
      obtain ⟨tg0, tg1, tg2, tg3⟩ := row4c C_g
      obtain ⟨tx0, tx1, tx2, tx3⟩ := row4c C_x
      obtain ⟨ty0, ty1, ty2, ty3⟩ := row4c C_y
      go_wp2
      go_ret
      exact ⟨rfl, hB⟩
end Go.Proofs.YtmegdgkpdonikaaDoor
