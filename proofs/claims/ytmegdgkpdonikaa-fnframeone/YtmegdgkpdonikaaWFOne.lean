import Derived.Test.YtmegdgkpdonikaaFL0
import Derived.Test.YtmegdgkpdonikaaFI2
import Derived.Test.YtmegdgkpdonikaaFD2
import Derived.Deep.DeepCutAuto
import Derived.Deep.RegionHeld3
namespace Go.Proofs.Ytmegdgkpdonikaa
open Go.RowKit
set_option linter.unusedVariables false

set_option maxRecDepth 100000 in
set_option maxHeartbeats 20000000 in
theorem fnFrameOne_walk (a0 : Option Addr) (len0 cap0 : Nat) (z0 : List Int) (a1 : Option Addr) (len1 cap1 : Nat) (z1 : List Int) (w : World) (w0 : Row w a0 len0 cap0 z0) (w1 : Row w a1 len1 cap1 z1) :
    Calls Try.prog 4 #[.slice a0 len0 cap0, .slice a1 len1 cap1] w fun e w' => e = .returned (.bool true) ∧ Below w.heap.size w w' := by
  by_cases c0 : (1048576 : Int) < len0
  · clear w0 w1
    go_enter Try.func4, Try.ntmps4
    go_wp2
    go_ret
    exact ⟨rfl, Below.refl _ _⟩
  by_cases c1 : (1048576 : Int) < len1
  · clear w0 w1
    go_enter Try.func4, Try.ntmps4
    go_wp2
    go_ret
    exact ⟨rfl, Below.refl _ _⟩
  have R0 : Hid (Row w a0 len0 cap0 z0) := w0
  have R1 : Hid (Row w a1 len1 cap1 z1) := w1
  clear w0 w1
  go_enter Try.func4, Try.ntmps4
  go_wp2_with fail
  refine (drawFrameWrite _ _ _ _ _ R0.out).mono ?_
  rintro e w1 ⟨f, rfl, hzf, hB⟩
  clear R0
  unfold Fr.val
  have hbA : Below w1.heap.size w1 (w1.alloc (.cells #[.int .i64 f.k, .bool f.l, .int .i64 f.s, .string f.b] 24)) := ((Below.refl _ _).alloc (Nat.le_refl _) _)
  replace hB := btF hB hbA
  clear hbA
  have C_f : (w1.alloc (.cells #[.int .i64 f.k, .bool f.l, .int .i64 f.s, .string f.b] 24)).heap[w1.heap.size]? = some (.cells #[.int .i64 f.k, .bool f.l, .int .i64 f.s, .string f.b] 24 (0, 0)) := heap_alloc_last w1 _
  go_wp2_with fail
  refine (drawFrameOk _ _ _ _ _ (R1.out.below hB)).mono ?_
  rintro e w2 ⟨g, rfl, hzg, hb⟩
  clear R1
  unfold Fr.val
  replace C_f := blkF hb C_f
  replace hB := btF hB hb
  clear hb
  have hbA : Below w2.heap.size w2 (w2.alloc (.cells #[.int .i64 g.k, .bool g.l, .int .i64 g.s, .string g.b] 24)) := ((Below.refl _ _).alloc (Nat.le_refl _) _)
  replace C_f := blkF hbA C_f
  replace hB := btF hB hbA
  clear hbA
  have C_g : (w2.alloc (.cells #[.int .i64 g.k, .bool g.l, .int .i64 g.s, .string g.b] 24)).heap[w2.heap.size]? = some (.cells #[.int .i64 g.k, .bool g.l, .int .i64 g.s, .string g.b] 24 (0, 0)) := heap_alloc_last w2 _
  have hIW := fun w => implFrameWrite f w (by unfold maxLen; omega)
  have hSW := fun w => specFrameWrite f w (by unfold maxLen; omega)
  unfold Fr.val at hIW hSW
  have hIW2 := fun w => implFrameWrite g w (by unfold maxLen; omega)
  have hSW2 := fun w => specFrameWrite g w (by unfold maxLen; omega)
  unfold Fr.val at hIW2 hSW2
  cases hf : frOk f with
  | false =>
    rw [frWr_bad hf] at hIW hSW
    obtain ⟨T, hT⟩ : ∃ T, frWr g = T := ⟨_, rfl⟩
    rw [hT] at hIW2
    clear hf hT hSW2
    obtain ⟨tf0, tf1, tf2, tf3⟩ := row4c C_f
    go_wp2_with fail
    refine (hIW _).mono ?_
    rintro e v1 ⟨rfl, hb⟩
    clear tf0 tf1 tf2 tf3
    replace C_f := blkF hb C_f
    replace C_g := blkF hb C_g
    replace hB := btF hB hb
    clear hb
    obtain ⟨tg0, tg1, tg2, tg3⟩ := row4c C_g
    go_wp2_with fail
    refine (hIW2 _).mono ?_
    rintro e v2 ⟨rfl, hb⟩
    clear tg0 tg1 tg2 tg3
    replace C_f := blkF hb C_f
    replace C_g := blkF hb C_g
    replace hB := btF hB hb
    clear hb
    obtain ⟨tf0, tf1, tf2, tf3⟩ := row4c C_f
    go_wp2_with fail
    refine (hSW _).mono ?_
    rintro e v3 ⟨rfl, hb⟩
    clear tf0 tf1 tf2 tf3
    replace C_f := blkF hb C_f
    replace C_g := blkF hb C_g
    replace hB := btF hB hb
    clear hb
    obtain ⟨tf0, tf1, tf2, tf3⟩ := row4c C_f
    go_wp2_with fail
    refine (hSW _).mono ?_
    rintro e v4 ⟨rfl, hb⟩
    clear tf0 tf1 tf2 tf3
    replace C_f := blkF hb C_f
    replace C_g := blkF hb C_g
    replace hB := btF hB hb
    clear hb
    go_wp2
    go_ret
    exact ⟨rfl, hB⟩
  | true =>
    rw [frWr_ok hf] at hIW hSW
    obtain ⟨S, hSS⟩ : ∃ S, frB f = S := ⟨_, rfl⟩
    have hzS : (S.size : Int) = 4 + f.b.size := by rw [← hSS, frB_size]; omega
    have hznS : S.size ≤ 204 := by have := frOk_bd hf; omega
    have hneS := isEmpty_false (s := S) (by omega)
    rw [hSS] at hIW hSW
    cases hg : frOk g with
    | false =>
      rw [frWr_bad hg] at hIW2
      clear hf hg hSW2 hSS
      obtain ⟨tf0, tf1, tf2, tf3⟩ := row4c C_f
      go_wp2_with fail
      refine (hIW _).mono ?_
      rintro e v1 ⟨rfl, hb⟩
      clear tf0 tf1 tf2 tf3
      replace C_f := blkF hb C_f
      replace C_g := blkF hb C_g
      replace hB := btF hB hb
      clear hb
      obtain ⟨tg0, tg1, tg2, tg3⟩ := row4c C_g
      go_wp2_with fail
      refine (hIW2 _).mono ?_
      rintro e v2 ⟨rfl, hb⟩
      clear tg0 tg1 tg2 tg3
      replace C_f := blkF hb C_f
      replace C_g := blkF hb C_g
      replace hB := btF hB hb
      clear hb
      obtain ⟨tf0, tf1, tf2, tf3⟩ := row4c C_f
      go_wp2_with fail
      refine (hSW _).mono ?_
      rintro e v3 ⟨rfl, hb⟩
      clear tf0 tf1 tf2 tf3
      replace C_f := blkF hb C_f
      replace C_g := blkF hb C_g
      replace hB := btF hB hb
      clear hb
      obtain ⟨tf0, tf1, tf2, tf3⟩ := row4c C_f
      go_wp2_with fail
      refine (hSW _).mono ?_
      rintro e v4 ⟨rfl, hb⟩
      clear tf0 tf1 tf2 tf3
      replace C_f := blkF hb C_f
      replace C_g := blkF hb C_g
      replace hB := btF hB hb
      clear hb
      go_wp2
      go_ret
      exact ⟨rfl, hB⟩
    | true =>
      rw [frWr_ok hg] at hIW2
      obtain ⟨T, hST⟩ : ∃ T, frB g = T := ⟨_, rfl⟩
      have hzT : (T.size : Int) = 4 + g.b.size := by rw [← hST, frB_size]; omega
      have hznT : T.size ≤ 204 := by have := frOk_bd hg; omega
      have hneT := isEmpty_false (s := T) (by omega)
      rw [hST] at hIW2
      clear hSW2
      have hst : (S.toList == T.toList) = eqFr f g := by
        cases e : eqFr f g with
        | true => rw [eqFr_iff.1 e, hST] at hSS; exact eqBF.2 hSS.symm
        | false =>
          cases e2 : (S.toList == T.toList) with
          | false => rfl
          | true =>
            have h1 := eqBF.1 e2
            rw [← hSS, ← hST] at h1
            rw [frB_inj hf hg h1, eqFr_self] at e
            cases e
      have hbg : S.size < T.size → ((T.extract 0 S.size).toList == S.toList) = false := by
        intro hlt
        cases e2 : ((T.extract 0 S.size).toList == S.toList) with
        | false => rfl
        | true =>
          have h1 := eqBF.1 e2
          have h2 : frL g = frL f ++ (frL g).drop S.size := by
            have h3 : bytesL (T.extract 0 S.size) = frL f := by rw [h1, ← hSS, bytesL_frB hf]
            rw [bytesL_extract, ← hST, bytesL_frB hg] at h3
            conv => lhs; rw [← List.take_append_drop S.size (frL g)]
            have h4 : (frL g).take S.size = frL f := by simpa using h3
            rw [h4]
          rw [fr_begin hf hg h2] at hzS
          omega
      have heq := eqFr_run f g
      obtain ⟨E, hE⟩ : ∃ E, eqFr f g = E := ⟨_, rfl⟩
      rw [hE] at hst heq
      have HBG : Hid (S.size < T.size → ((T.extract 0 S.size).toList == S.toList) = false) := hbg
      have HZS : Hid _ := hzS
      have HZT : Hid _ := hzT
      clear hE hbg hf hg hSS hST hzS hzT
      by_cases hlt : S.size < T.size
      · have hlt' : ¬ (T.size : Int) ≤ S.size := by omega
        have hlt2 : (S.size : Int) < T.size := by omega
        have hsl : ∀ W : World, (Instr.slice 9 (.string T) none (some (.int .i64 (S.size : Int))) none).run Try.prog W = .ok (.string (T.extract 0 S.size)) W := fun W => by
          have h := run_slice_string_h (P := Try.prog) W 9 T Try.underlying9 .i64 (S.size : Int) (by omega) (by omega)
          rw [Int.toNat_natCast] at h
          exact h
        have hbg := HBG.out hlt
        obtain ⟨q, hq⟩ : ∃ q, T.extract 0 S.size = q := ⟨_, rfl⟩
        rw [hq] at hsl hbg
        clear hq HBG
        obtain ⟨tf0, tf1, tf2, tf3⟩ := row4c C_f
        go_wp2_with fail
        refine (hIW _).mono ?_
        rintro e v1 ⟨rfl, hb⟩
        clear tf0 tf1 tf2 tf3
        replace C_f := blkF hb C_f
        replace C_g := blkF hb C_g
        replace hB := btF hB hb
        clear hb
        obtain ⟨tg0, tg1, tg2, tg3⟩ := row4c C_g
        go_wp2_with fail
        refine (hIW2 _).mono ?_
        rintro e v2 ⟨rfl, hb⟩
        clear tg0 tg1 tg2 tg3
        replace C_f := blkF hb C_f
        replace C_g := blkF hb C_g
        replace hB := btF hB hb
        clear hb
        obtain ⟨tf0, tf1, tf2, tf3⟩ := row4c C_f
        go_wp2_with fail
        refine (hSW _).mono ?_
        rintro e v3 ⟨rfl, hb⟩
        clear tf0 tf1 tf2 tf3
        replace C_f := blkF hb C_f
        replace C_g := blkF hb C_g
        replace hB := btF hB hb
        clear hb
        clear hIW hSW hIW2
        obtain ⟨tf0, tf1, tf2, tf3⟩ := row4c C_f
        obtain ⟨tg0, tg1, tg2, tg3⟩ := row4c C_g
        cases E
        all_goals
          go_wp2
          go_ret
          exact ⟨rfl, hB⟩
      · have hge : (T.size : Int) ≤ S.size := by omega
        clear HBG
        obtain ⟨tf0, tf1, tf2, tf3⟩ := row4c C_f
        go_wp2_with fail
        refine (hIW _).mono ?_
        rintro e v1 ⟨rfl, hb⟩
        clear tf0 tf1 tf2 tf3
        replace C_f := blkF hb C_f
        replace C_g := blkF hb C_g
        replace hB := btF hB hb
        clear hb
        obtain ⟨tg0, tg1, tg2, tg3⟩ := row4c C_g
        go_wp2_with fail
        refine (hIW2 _).mono ?_
        rintro e v2 ⟨rfl, hb⟩
        clear tg0 tg1 tg2 tg3
        replace C_f := blkF hb C_f
        replace C_g := blkF hb C_g
        replace hB := btF hB hb
        clear hb
        obtain ⟨tf0, tf1, tf2, tf3⟩ := row4c C_f
        go_wp2_with fail
        refine (hSW _).mono ?_
        rintro e v3 ⟨rfl, hb⟩
        clear tf0 tf1 tf2 tf3
        replace C_f := blkF hb C_f
        replace C_g := blkF hb C_g
        replace hB := btF hB hb
        clear hb
        clear hIW hSW hIW2
        obtain ⟨tf0, tf1, tf2, tf3⟩ := row4c C_f
        obtain ⟨tg0, tg1, tg2, tg3⟩ := row4c C_g
        cases E
        all_goals
          go_wp2
          go_ret
          exact ⟨rfl, hB⟩
end Go.Proofs.Ytmegdgkpdonikaa
