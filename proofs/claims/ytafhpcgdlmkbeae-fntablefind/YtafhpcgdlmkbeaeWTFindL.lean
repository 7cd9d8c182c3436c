import Derived.Test.YtafhpcgdlmkbeaeTL2
import Derived.Test.YtafhpcgdlmkbeaeTDraw5
import Derived.Test.YtafhpcgdlmkbeaeTI6
import Derived.Deep.RegionHeld3
namespace Go.Proofs.Ytafhpcgdlmkbeae
open Go.RowKit
set_option linter.unusedVariables false

theorem flP_spec (f : Fd) (L : List Fd) (k : Nat) : (flP f L k = 0 ∧ ∀ j (h : j < L.length), ¬ (L[j].n = f.n ∧ L[j].v = f.v)) ∨ ∃ j, ∃ h : j < L.length, flP f L k = k + j + 1 ∧ (L[j].n = f.n ∧ L[j].v = f.v) ∧ ∀ i (hi : i < j), ¬ (L[i].n = f.n ∧ L[i].v = f.v) := by
  induction L generalizing k with
  | nil => exact .inl ⟨rfl, fun j h => absurd h (by simp)⟩
  | cons x t ih =>
    by_cases hx : x.n = f.n ∧ x.v = f.v
    · exact .inr ⟨0, by simp, by simp [flP, hx], hx, fun i hi => absurd hi (by omega)⟩
    · rcases ih (k + 1) with ⟨h1, h2⟩ | ⟨j, hj, h1, h2, h3⟩
      · refine .inl ⟨by rw [flP, if_neg hx]; exact h1, ?_⟩
        intro j h
        cases j with
        | zero => exact hx
        | succ j => exact h2 j (by simpa using h)
      · refine .inr ⟨j + 1, by simpa using hj, by rw [flP, if_neg hx, h1]; omega, h2, ?_⟩
        intro i hi
        cases i with
        | zero => exact hx
        | succ i => exact h3 i (by omega)
theorem nmP_spec (n : ByteArray) (L : List Fd) (k : Nat) : (nmP n L k = 0 ∧ ∀ j (h : j < L.length), ¬ L[j].n = n) ∨ ∃ j, ∃ h : j < L.length, nmP n L k = k + j + 1 ∧ L[j].n = n ∧ ∀ i (hi : i < j), ¬ L[i].n = n := by
  induction L generalizing k with
  | nil => exact .inl ⟨rfl, fun j h => absurd h (by simp)⟩
  | cons x t ih =>
    by_cases hx : x.n = n
    · exact .inr ⟨0, by simp, by simp [nmP, hx], hx, fun i hi => absurd hi (by omega)⟩
    · rcases ih (k + 1) with ⟨h1, h2⟩ | ⟨j, hj, h1, h2, h3⟩
      · refine .inl ⟨by rw [nmP, if_neg hx]; exact h1, ?_⟩
        intro j h
        cases j with
        | zero => exact hx
        | succ j => exact h2 j (by simpa using h)
      · refine .inr ⟨j + 1, by simpa using hj, by rw [nmP, if_neg hx, h1]; omega, h2, ?_⟩
        intro i hi
        cases i with
        | zero => exact hx
        | succ i => exact h3 i (by omega)
/-- What is found, place by place. -/
theorem find_spec (fs : List Fd) (f : Fd) (p : Nat) (b : Bool) (L : List Fd) (hL : fixedL ++ fs = L) (h : findV fs f = (p, b)) :
    (∀ i (hi : i < L.length), L[i].n = f.n → p ≠ 0 ∧ (b = false → p ≤ i + 1) ∧ (L[i].v = f.v → b = true ∧ p ≤ i + 1)) ∧
    (p = 0 → b = false) ∧ (p ≠ 0 → ∃ h : p - 1 < L.length, L[p - 1].n = f.n ∧ (b = true → L[p - 1].v = f.v)) := by
  unfold findV at h
  rw [hL] at h
  rcases flP_spec f L 0 with ⟨h1, h2⟩ | ⟨j, hj, h1, h2, h3⟩
  · rw [if_pos h1] at h
    injection h with hp hb
    subst hp hb
    rcases nmP_spec f.n L 0 with ⟨g1, g2⟩ | ⟨q, hq, g1, g2, g3⟩
    · refine ⟨fun i hi e => absurd e (g2 i hi), fun _ => rfl, fun e => absurd g1 e⟩
    · refine ⟨fun i hi e => ⟨by omega, fun _ => ?_, fun ev => absurd ⟨e, ev⟩ (h2 i hi)⟩, fun _ => rfl, fun _ => ⟨by omega, ?_⟩⟩
      · by_cases hlt : i < q
        · exact absurd e (g3 i hlt)
        · omega
      · have e1 : nmP f.n L 0 - 1 = q := by omega
        simp only [e1]
        exact ⟨g2, fun e => by cases e⟩
  · rw [if_neg (by omega)] at h
    injection h with hp hb
    subst hp hb
    refine ⟨fun i hi e => ⟨by omega, (fun e => by cases e), fun ev => ⟨rfl, ?_⟩⟩, fun e => by omega, fun _ => ⟨by omega, ?_⟩⟩
    · by_cases hlt : i < j
      · exact absurd ⟨e, ev⟩ (h3 i hlt)
      · omega
    · have e1 : flP f L 0 - 1 = j := by omega
      simp only [e1]
      exact ⟨h2.1, fun _ => h2.2⟩
theorem all_at {fs : List Fd} {max : Int} (ht : tOk fs max = true) (k : Nat) (L : List Fd) (hL : fixedL ++ fs = L) (h : k < L.length) : tabAt fs max ((k : Int) + 1) = (L[k], true) := by
  subst hL
  have h6 : (fixedL ++ fs).length = 6 + fs.length := by rw [List.length_append]; rfl
  unfold tabAt atV
  rw [ht, if_pos rfl, if_pos (by omega), show ((k : Int) + 1 - 1).toNat = k by omega, List.getD_eq_getElem?_getD, List.getElem?_eq_getElem h, Option.getD_some]

set_option maxRecDepth 100000 in
set_option maxHeartbeats 20000000 in
theorem fnTableFind_walk (a0 : Option Addr) (len0 cap0 : Nat) (z0 : List Int) (w : World) (w0 : Row w a0 len0 cap0 z0) :
    Calls Try.prog 5 #[.slice a0 len0 cap0] w fun e w' => e = .returned (.bool true) ∧ Below w.heap.size w w' := by
  by_cases c0 : (1048576 : Int) < len0
  · clear w0
    go_enter Try.func5, Try.ntmps5
    go_wp2
    go_ret
    exact ⟨rfl, Below.refl _ _⟩
  have R0 : Hid (Row w a0 len0 cap0 z0) := w0
  clear w0
  go_enter Try.func5, Try.ntmps5
  go_wp2_with fail
  refine (drawTableFind _ _ _ _ _ R0.out).mono ?_
  rintro e wa ⟨fs, max, a', c', f, rfl, ⟨hl, hsm, m0, m1, hfs⟩, hfn, hfv, hba⟩
  have hbA : Below wa.heap.size wa ((wa.alloc (.cells #[.slice a' fs.length c', .int .i64 max] 25)).alloc (.cells #[.string f.n, .string f.v, .bool f.q] 35)) := ((Below.refl _ _).alloc (Nat.le_refl _) _).alloc (by simp) _
  have hTA : Hid (((wa.alloc (.cells #[.slice a' fs.length c', .int .i64 max] 25)).alloc (.cells #[.string f.n, .string f.v, .bool f.q] 35)).heap[wa.heap.size]? = some (.cells #[.slice a' fs.length c', .int .i64 max] 25 (0, 0))) := blkT (heap_alloc_last wa _) _
  have hFA : Hid (((wa.alloc (.cells #[.slice a' fs.length c', .int .i64 max] 25)).alloc (.cells #[.string f.n, .string f.v, .bool f.q] 35)).heap[wa.heap.size + 1]? = some (.cells #[.string f.n, .string f.v, .bool f.q] 35 (0, 0))) := by
    have h := heap_alloc_last (wa.alloc (.cells #[.slice a' fs.length c', .int .i64 max] 25)) (.cells #[.string f.n, .string f.v, .bool f.q] 35)
    rw [World.size_alloc] at h
    exact h
  have hBA := bt' hba hbA
  have HFS : Hid (Fs ((wa.alloc (.cells #[.slice a' fs.length c', .int .i64 max] 25)).alloc (.cells #[.string f.n, .string f.v, .bool f.q] 35)) a' fs.length c' fs) := hfs.below hbA
  have hoI := fun (w' : World) (h : Fs w' a' fs.length c' fs) => implTableFind fs a' fs.length c' max f w' h hsm.bd (by omega) (by omega) (by omega)
  have hoS := fun (w' : World) (h : Fs w' a' fs.length c' fs) => specTableFind fs a' fs.length c' max f w' h hsm.bd (by omega) (by omega) (by omega)
  have hoT := fun (w' : World) (h : Fs w' a' fs.length c' fs) => specTableOk fs a' fs.length c' max w' h hsm.bd (by omega)
  have hoF := fun (w' : World) => specFieldOk f w' (by omega) (by omega)
  obtain ⟨⟨p, b⟩, hX⟩ : ∃ r, tabFind fs max f = r := ⟨_, rfl⟩
  rw [hX] at hoI hoS
  have HX : Hid (tabFind fs max f = (p, b)) := hX
  unfold Fd.val at hoI hoS hoF ⊢
  simp only at hoI hoS
  have HSM : Hid (fsSm fs) := hsm
  clear hX hsm hfs
  go_wp2_with (first | (go_at_call 23; refine (hoS _ HFS.out).mono ?_; clear hoS; rintro e wb ⟨rfl, hbb⟩; have hTb := blkB hbb hTA.out; have hFb := blkB hbb hFA.out; have hSb := HFS.out.below hbb; have hBb := bt' hBA hbb; obtain ⟨j0, j1⟩ := row2c hTb; obtain ⟨j2, j3, j4⟩ := row3c hFb) | (go_at_call 24; refine (hoI _ hSb).mono ?_; clear hoI; rintro e wc ⟨rfl, hbc⟩; have hTc := blkB hbc hTb; have hFc := blkB hbc hFb; have hSc := hSb.below hbc; have hBc := bt' hBb hbc; obtain ⟨k0, k1⟩ := row2c hTc; obtain ⟨k2, k3, k4⟩ := row3c hFc))
  clear hTb hFb hSb hBb hbb hTA hFA hBA HFS hbA hba j0 j1 j2 j3 j4 hbc
  cases ht : tOk fs max with
  | false =>
    rw [ht] at hoT
    clear ht
    refine (hoT _ hSc).mono ?_
    rintro e wd ⟨rfl, hbd⟩
    go_wp2
    go_ret
    exact ⟨rfl, bt' hBc hbd⟩
  | true =>
    rw [ht] at hoT
    refine (hoT _ hSc).mono ?_
    rintro e wd ⟨rfl, hbd⟩
    obtain ⟨l2, l3, l4⟩ := row3c (blkB hbd hFc)
    cases hfk : fOk f with
    | false =>
      rw [hfk] at hoF
      clear ht hfk
      go_wp2_with (go_at_call 25; refine (hoF _).mono ?_; clear hoF; rintro e we ⟨rfl, hbe⟩)
      go_ret
      exact ⟨rfl, bt' (bt' hBc hbd) hbe⟩
    | true =>
      rw [hfk] at hoF
      have hV : findV fs f = (p, b) := by
        have h := HX.out
        unfold tabFind at h
        rwa [ht, hfk] at h
      obtain ⟨L, hL⟩ : ∃ L, fixedL ++ fs = L := ⟨_, rfl⟩
      have hLl : L.length = 6 + fs.length := by rw [← hL, List.length_append]; rfl
      obtain ⟨f1, f2, f3⟩ := find_spec fs f p b L hL hV
      have HF1 : Hid (∀ i (hi : i < L.length), L[i].n = f.n → p ≠ 0 ∧ (b = false → p ≤ i + 1) ∧ (L[i].v = f.v → b = true ∧ p ≤ i + 1)) := f1
      have HF2 : Hid (p = 0 → b = false) := f2
      have HF3 : Hid (p ≠ 0 → ∃ h : p - 1 < L.length, L[p - 1].n = f.n ∧ (b = true → L[p - 1].v = f.v)) := f3
      have hAt : ∀ (k : Nat) (h : k < L.length) (w' : World), Fs w' a' fs.length c' fs → Calls Try.prog 20 #[.agg #[.slice a' fs.length c', .int .i64 max], .int .i64 ((k : Int) + 1)] w' fun e w'' => e = .returned (.tuple #[.agg #[.string L[k].n, .string L[k].v, .bool L[k].q], .bool true]) ∧ Below w'.heap.size w' w'' := by
        intro k h w' hw
        have hc := implTableAt fs a' fs.length c' max ((k : Int) + 1) w' hw HSM.out.bd (by omega)
        rw [all_at ht k L hL h] at hc
        exact hc
      clear f1 f2 f3 hV hL ht hfk HX
      go_wp2_with fail
      refine (hoF _).mono ?_
      rintro e V ⟨rfl, hbe⟩
      have hbV := bt' hbd hbe
      have HSV : Hid (Fs V a' fs.length c' fs) := hSc.below (bt' hbd hbe)
      have hBV := bt' (bt' hBc hbd) hbe
      obtain ⟨q0, q1⟩ := row2c (blkB hbe (blkB hbd hTc))
      obtain ⟨q2, q3, q4⟩ := row3c (blkB hbe (blkB hbd hFc))
      clear hTc hFc hSc hBc hbd hbe k0 k1 k2 k3 k4 l2 l3 l4 hoT hoF hbV
      have hw6 : IntKind.i64.wrap (6 + (fs.length : Int)) = 6 + (fs.length : Int) := wraps_i64_40 _ (by omega) (by omega)
      have hkeepV : ∀ w1 w2 : World, Below w1.heap.size w1 w2 → (w1.cell? ⟨wa.heap.size, 0, none⟩ = some (.slice a' fs.length c') ∧ w1.cell? ⟨wa.heap.size, 1, none⟩ = some (.int .i64 max) ∧ w1.cell? ⟨wa.heap.size + 1, 0, none⟩ = some (.string f.n) ∧ w1.cell? ⟨wa.heap.size + 1, 1, none⟩ = some (.string f.v) ∧ w1.cell? ⟨wa.heap.size + 1, 2, none⟩ = some (.bool f.q) ∧ Below V.heap.size V w1) → (w2.cell? ⟨wa.heap.size, 0, none⟩ = some (.slice a' fs.length c') ∧ w2.cell? ⟨wa.heap.size, 1, none⟩ = some (.int .i64 max) ∧ w2.cell? ⟨wa.heap.size + 1, 0, none⟩ = some (.string f.n) ∧ w2.cell? ⟨wa.heap.size + 1, 1, none⟩ = some (.string f.v) ∧ w2.cell? ⟨wa.heap.size + 1, 2, none⟩ = some (.bool f.q) ∧ Below V.heap.size V w2) := by
        rintro w1 w2 hb ⟨h0, h1, h2, h3, h4, hB⟩
        exact ⟨keepc hb h0, keepc hb h1, keepc hb h2, keepc hb h3, keepc hb h4, bt' hB hb⟩
      have hBelV : ∀ w' : World, (w'.cell? ⟨wa.heap.size, 0, none⟩ = some (.slice a' fs.length c') ∧ w'.cell? ⟨wa.heap.size, 1, none⟩ = some (.int .i64 max) ∧ w'.cell? ⟨wa.heap.size + 1, 0, none⟩ = some (.string f.n) ∧ w'.cell? ⟨wa.heap.size + 1, 1, none⟩ = some (.string f.v) ∧ w'.cell? ⟨wa.heap.size + 1, 2, none⟩ = some (.bool f.q) ∧ Below V.heap.size V w') → Below V.heap.size V w' := fun w' h => h.2.2.2.2.2
      have hV0 : V.cell? ⟨wa.heap.size, 0, none⟩ = some (.slice a' fs.length c') ∧ V.cell? ⟨wa.heap.size, 1, none⟩ = some (.int .i64 max) ∧ V.cell? ⟨wa.heap.size + 1, 0, none⟩ = some (.string f.n) ∧ V.cell? ⟨wa.heap.size + 1, 1, none⟩ = some (.string f.v) ∧ V.cell? ⟨wa.heap.size + 1, 2, none⟩ = some (.bool f.q) ∧ Below V.heap.size V V := ⟨q0, q1, q2, q3, q4, Below.refl _ _⟩
      have hmx : Try.prog.follows .mixedOrders = true := by kernel_rfl
      clear q0 q1 q2 q3 q4
      go_wp2
      go_region_held3 (fun w' => w'.cell? ⟨wa.heap.size, 0, none⟩ = some (.slice a' fs.length c') ∧ w'.cell? ⟨wa.heap.size, 1, none⟩ = some (.int .i64 max) ∧ w'.cell? ⟨wa.heap.size + 1, 0, none⟩ = some (.string f.n) ∧ w'.cell? ⟨wa.heap.size + 1, 1, none⟩ = some (.string f.v) ∧ w'.cell? ⟨wa.heap.size + 1, 2, none⟩ = some (.bool f.q) ∧ Below V.heap.size V w') (first | assumption | exact hkeepV _ _ ((Below.refl _ _).drew) hV0 | exact hkeepV _ _ hbN (by assumption)) ((first | (go_at_call 21; refine (implTableFixed _).mono ?_; rintro e wN ⟨aN, cN, rfl, hownN, hbN⟩; clear hownN)))
      have hV1 : wN.cell? ⟨wa.heap.size, 0, none⟩ = some (.slice a' fs.length c') ∧ wN.cell? ⟨wa.heap.size, 1, none⟩ = some (.int .i64 max) ∧ wN.cell? ⟨wa.heap.size + 1, 0, none⟩ = some (.string f.n) ∧ wN.cell? ⟨wa.heap.size + 1, 1, none⟩ = some (.string f.v) ∧ wN.cell? ⟨wa.heap.size + 1, 2, none⟩ = some (.bool f.q) ∧ Below V.heap.size V wN := by first | assumption | exact hkeepV _ _ hbN (by assumption)
      clear hV0
      go_wp2
      go_loopw [10] (fun i wr => ∃ k : Nat, k ≤ 6 + fs.length ∧ i = .int .i64 ((k : Int) + 1) ∧ wr.cell? ⟨wa.heap.size, 0, none⟩ = some (.slice a' fs.length c') ∧ wr.cell? ⟨wa.heap.size, 1, none⟩ = some (.int .i64 max) ∧ wr.cell? ⟨wa.heap.size + 1, 0, none⟩ = some (.string f.n) ∧ wr.cell? ⟨wa.heap.size + 1, 1, none⟩ = some (.string f.v) ∧ wr.cell? ⟨wa.heap.size + 1, 2, none⟩ = some (.bool f.q) ∧ Below V.heap.size V wr) (fun i _ => 8 + fs.length - (intOf i).toNat)
      case atStart => exact ⟨0, by omega, rfl, hV1⟩
      case round =>
        clear hV1
        obtain ⟨k, hk, rfl, hS⟩ := hrel
        obtain ⟨q0, q1, q2, q3, q4, qB⟩ := id hS
        have hFr := HSV.out.below qB
        have hBr := bt' hBV qB
        by_cases hlt : k < 6 + fs.length
        · have hkl : k < L.length := by omega
          have hca := hAt k hkl _ hFr
          have hsp := HF1.out k hkl
          obtain ⟨x, hx⟩ : ∃ x, L[k] = x := ⟨_, rfl⟩
          rw [hx] at hca hsp
          have hlI : (k : Int) + 1 ≤ 6 + (fs.length : Int) := by omega
          have hdl : decide ((k : Int) + 1 ≤ 6 + (fs.length : Int)) = true := by simpa using hlI
          have hwk : IntKind.i64.wrap ((k : Int) + 1 + 1) = (k : Int) + 1 + 1 := wraps_i64_40 _ (by omega) (by omega)
          by_cases he0 : x.n = f.n
          · obtain ⟨hp0, hpf, hpv⟩ := hsp he0
            have hd := eqT he0
            have hp1 : ((p : Int) == 0) = false := by rw [beq_eq_false_iff_ne]; omega
            clear he0 hsp
            by_cases he2 : x.v = f.v
            · obtain ⟨rfl, hpk⟩ := hpv he2
              have hd2 := eqT he2
              have hdp : decide ((k : Int) + 1 < (p : Int)) = false := by rw [decide_eq_false_iff_not]; omega
              clear he2 hpv hpf
              have hFl : wa.heap.size + 1 < wr.heap.size := World.block_lt_of_cell? wr _ q2
              clear hx
              go_wp2_with (go_at_call 20; refine hca.mono ?_; clear hca; rintro e w5 ⟨rfl, hb5⟩; have hS5 := hkeepV _ _ hb5 hS; have hbN : Below w5.heap.size w5 (w5.alloc (.cells #[.string x.n, .string x.v, .bool x.q] 35)) := (Below.refl _ _).alloc (Nat.le_refl _) _; have hS6 := hkeepV _ _ hbN hS5; obtain ⟨_, _, u2, u3, u4, _⟩ := id hS6; obtain ⟨n0, n1, n2⟩ := row3c (heap_alloc_last w5 (.cells #[.string x.n, .string x.v, .bool x.q] 35)); have hF5 : wa.heap.size + 1 < w5.heap.size := World.block_lt_of_cell? w5 _ hS5.2.2.1)
              go_roundw
              case rel => exact ⟨k + 1, by omega, by go_num, hS6⟩
              case measure => simp [intOf]; omega
            · have hd2 := neF he2
              clear he2 hpv
              cases hbb : b with
              | true =>
                subst hbb
                clear hpf
                have hFl : wa.heap.size + 1 < wr.heap.size := World.block_lt_of_cell? wr _ q2
                clear hx
                go_wp2_with (go_at_call 20; refine hca.mono ?_; clear hca; rintro e w5 ⟨rfl, hb5⟩; have hS5 := hkeepV _ _ hb5 hS; have hbN : Below w5.heap.size w5 (w5.alloc (.cells #[.string x.n, .string x.v, .bool x.q] 35)) := (Below.refl _ _).alloc (Nat.le_refl _) _; have hS6 := hkeepV _ _ hbN hS5; obtain ⟨_, _, u2, u3, u4, _⟩ := id hS6; obtain ⟨n0, n1, n2⟩ := row3c (heap_alloc_last w5 (.cells #[.string x.n, .string x.v, .bool x.q] 35)); have hF5 : wa.heap.size + 1 < w5.heap.size := World.block_lt_of_cell? w5 _ hS5.2.2.1)
                go_roundw
                case rel => exact ⟨k + 1, by omega, by go_num, hS6⟩
                case measure => simp [intOf]; omega
              | false =>
                subst hbb
                have hpk := hpf rfl
                have hdp : decide ((k : Int) + 1 < (p : Int)) = false := by rw [decide_eq_false_iff_not]; omega
                clear hpf
                have hFl : wa.heap.size + 1 < wr.heap.size := World.block_lt_of_cell? wr _ q2
                clear hx
                go_wp2_with (go_at_call 20; refine hca.mono ?_; clear hca; rintro e w5 ⟨rfl, hb5⟩; have hS5 := hkeepV _ _ hb5 hS; have hbN : Below w5.heap.size w5 (w5.alloc (.cells #[.string x.n, .string x.v, .bool x.q] 35)) := (Below.refl _ _).alloc (Nat.le_refl _) _; have hS6 := hkeepV _ _ hbN hS5; obtain ⟨_, _, u2, u3, u4, _⟩ := id hS6; obtain ⟨n0, n1, n2⟩ := row3c (heap_alloc_last w5 (.cells #[.string x.n, .string x.v, .bool x.q] 35)); have hF5 : wa.heap.size + 1 < w5.heap.size := World.block_lt_of_cell? w5 _ hS5.2.2.1)
                go_roundw
                case rel => exact ⟨k + 1, by omega, by go_num, hS6⟩
                case measure => simp [intOf]; omega
          · have hd := neF he0
            clear he0 hsp
            have hFl : wa.heap.size + 1 < wr.heap.size := World.block_lt_of_cell? wr _ q2
            clear hx
            go_wp2_with (go_at_call 20; refine hca.mono ?_; clear hca; rintro e w5 ⟨rfl, hb5⟩; have hS5 := hkeepV _ _ hb5 hS; have hbN : Below w5.heap.size w5 (w5.alloc (.cells #[.string x.n, .string x.v, .bool x.q] 35)) := (Below.refl _ _).alloc (Nat.le_refl _) _; have hS6 := hkeepV _ _ hbN hS5; obtain ⟨_, _, u2, u3, u4, _⟩ := id hS6; obtain ⟨n0, n1, n2⟩ := row3c (heap_alloc_last w5 (.cells #[.string x.n, .string x.v, .bool x.q] 35)); have hF5 : wa.heap.size + 1 < w5.heap.size := World.block_lt_of_cell? w5 _ hS5.2.2.1)
            go_roundw
            case rel => exact ⟨k + 1, by omega, by go_num, hS6⟩
            case measure => simp [intOf]; omega
        · have hdl : decide ((k : Int) + 1 ≤ 6 + (fs.length : Int)) = false := by rw [decide_eq_false_iff_not]; omega
          by_cases hp0 : p = 0
          · have hb0 := HF2.out hp0
            subst hp0 hb0
            go_wp2
            go_ret
            exact ⟨rfl, hBr⟩
          · obtain ⟨hpl, e1, e2⟩ := HF3.out hp0
            have hca := hAt (p - 1) hpl _ hFr
            obtain ⟨x, hx⟩ : ∃ x, L[p - 1] = x := ⟨_, rfl⟩
            rw [hx, show (((p - 1 : Nat) : Int) + 1) = (p : Int) by omega] at hca
            rw [hx] at e1 e2
            have hp1 : ((p : Int) == 0) = false := by rw [beq_eq_false_iff_ne]; omega
            have hd := eqT e1
            have hFl : wa.heap.size + 1 < wr.heap.size := World.block_lt_of_cell? wr _ q2
            cases hbb : b with
            | true =>
              subst hbb
              have hd2 := eqT (e2 rfl)
              clear e1 e2 hx
              go_wp2_with (go_at_call 20; refine hca.mono ?_; clear hca; rintro e w5 ⟨rfl, hb5⟩; have hS5 := hkeepV _ _ hb5 hS; have hbN : Below w5.heap.size w5 (w5.alloc (.cells #[.string x.n, .string x.v, .bool x.q] 35)) := (Below.refl _ _).alloc (Nat.le_refl _) _; have hS6 := hkeepV _ _ hbN hS5; obtain ⟨_, _, u2, u3, u4, _⟩ := id hS6; obtain ⟨n0, n1, n2⟩ := row3c (heap_alloc_last w5 (.cells #[.string x.n, .string x.v, .bool x.q] 35)); have hF5 : wa.heap.size + 1 < w5.heap.size := World.block_lt_of_cell? w5 _ hS5.2.2.1)
              go_ret
              exact ⟨rfl, bt' (bt' hBr hb5) hbN⟩
            | false =>
              subst hbb
              clear e1 e2 hx
              go_wp2_with (go_at_call 20; refine hca.mono ?_; clear hca; rintro e w5 ⟨rfl, hb5⟩; have hS5 := hkeepV _ _ hb5 hS; have hbN : Below w5.heap.size w5 (w5.alloc (.cells #[.string x.n, .string x.v, .bool x.q] 35)) := (Below.refl _ _).alloc (Nat.le_refl _) _; have hS6 := hkeepV _ _ hbN hS5; obtain ⟨_, _, u2, u3, u4, _⟩ := id hS6; obtain ⟨n0, n1, n2⟩ := row3c (heap_alloc_last w5 (.cells #[.string x.n, .string x.v, .bool x.q] 35)); have hF5 : wa.heap.size + 1 < w5.heap.size := World.block_lt_of_cell? w5 _ hS5.2.2.1)
              go_ret
              exact ⟨rfl, bt' (bt' hBr hb5) hbN⟩
end Go.Proofs.Ytafhpcgdlmkbeae
