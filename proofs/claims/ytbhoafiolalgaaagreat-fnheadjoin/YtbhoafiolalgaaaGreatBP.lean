import Derived.Test.YtbhoafiolalgaaaGreatHI4
namespace Go.Proofs.YtbhoafiolalgaaaGreat
open Go.RowKit
set_option linter.unusedVariables false

set_option maxRecDepth 100000 in
set_option maxHeartbeats 1000000 in
theorem begins7 (s : ByteArray) (x0 : Int) (w : World) (hk : 0 < s.size) (q0 : ((s[0]'hk).toNat : Int) = x0) (x00 : 0 ≤ x0) (x01 : x0 ≤ 255) :
    Calls Tryz.prog 42 #[.string s, .int .i64 7] w fun e w' => e = .returned (.bool (decide (x0 / 128 = 1))) ∧ w' = w := by
  go_enter Tryz.func42, Tryz.ntmps42
  go_wp2
  go_ret
  exact ⟨ret_bool' (by first | rfl | (simp; done) | (rw [Bool.eq_iff_iff]; simp)), rfl⟩
set_option maxRecDepth 100000 in
set_option maxHeartbeats 1000000 in
theorem begins6 (s : ByteArray) (x0 : Int) (w : World) (hk : 0 < s.size) (q0 : ((s[0]'hk).toNat : Int) = x0) (x00 : 0 ≤ x0) (x01 : x0 ≤ 255) :
    Calls Tryz.prog 42 #[.string s, .int .i64 6] w fun e w' => e = .returned (.bool (decide (x0 / 64 = 1))) ∧ w' = w := by
  go_enter Tryz.func42, Tryz.ntmps42
  go_wp2
  go_ret
  exact ⟨ret_bool' (by first | rfl | (simp; done) | (rw [Bool.eq_iff_iff]; simp)), rfl⟩
set_option maxRecDepth 100000 in
set_option maxHeartbeats 1000000 in
theorem begins4 (s : ByteArray) (x0 : Int) (w : World) (hk : 0 < s.size) (q0 : ((s[0]'hk).toNat : Int) = x0) (x00 : 0 ≤ x0) (x01 : x0 ≤ 255) :
    Calls Tryz.prog 42 #[.string s, .int .i64 4] w fun e w' => e = .returned (.bool (decide (x0 / 16 = 1))) ∧ w' = w := by
  go_enter Tryz.func42, Tryz.ntmps42
  go_wp2
  go_ret
  exact ⟨ret_bool' (by first | rfl | (simp; done) | (rw [Bool.eq_iff_iff]; simp)), rfl⟩
def zW : Int × ByteArray × ByteArray := (0, ⟨#[]⟩, ⟨#[]⟩)
/-- What the landed code reads of a place, or a name, and a value. -/
def wordsV (s : ByteArray) (bits : Int) : (Int × ByteArray × ByteArray) × Int × Bool :=
  if (rdV s bits).2.2 = false then (zW, 0, false)
  else if (rdV s bits).1 = 0 then
    if (rdWV (restS s (rdV s bits).2.1)).2.2 = false ∨ (rdWV (restS s (rdV s bits).2.1)).1.size = 0 then (zW, 0, false)
    else if (rdWV (restS s ((rdV s bits).2.1 + (rdWV (restS s (rdV s bits).2.1)).2.1))).2.2 = false then (zW, 0, false)
    else ((0, (rdWV (restS s (rdV s bits).2.1)).1, (rdWV (restS s ((rdV s bits).2.1 + (rdWV (restS s (rdV s bits).2.1)).2.1))).1), (rdV s bits).2.1 + (rdWV (restS s (rdV s bits).2.1)).2.1 + (rdWV (restS s ((rdV s bits).2.1 + (rdWV (restS s (rdV s bits).2.1)).2.1))).2.1, true)
  else if (rdWV (restS s (rdV s bits).2.1)).2.2 = false then (zW, 0, false)
  else (((rdV s bits).1, ⟨#[]⟩, (rdWV (restS s (rdV s bits).2.1)).1), (rdV s bits).2.1 + (rdWV (restS s (rdV s bits).2.1)).2.1, true)
theorem wordsV_is (s : ByteArray) (bits : Int) (b0 : 3 ≤ bits) (b1 : bits ≤ 7) :
    (∃ x u, litL (pw bits) (bytesL s) = some (x, u) ∧ wordsV s bits = ((x.p, strOfNums x.n, strOfNums x.v), (u : Int), true)) ∨ (litL (pw bits) (bytesL s) = none ∧ wordsV s bits = (zW, 0, false)) := by
  have hP := pw_bd bits b0 b1
  have hrd : rdV s bits = rd (pw bits) (bytesL s) := by unfold rdV; rw [if_pos ⟨b0, b1⟩]
  unfold wordsV litL
  rw [hrd]
  obtain ⟨⟨p, u, ok⟩, hr⟩ : ∃ r, rd (pw bits) (bytesL s) = r := ⟨_, rfl⟩
  rw [hr]
  dsimp only
  cases ok with
  | false => exact .inr ⟨by rw [if_pos rfl], by rw [if_pos rfl]⟩
  | true =>
    obtain ⟨p0, p1, u0, u1, _⟩ := rd_more (bytesL_bd s) hP.1 hP.2 hr
    simp only [Bool.true_eq_false, if_false]
    by_cases hp : p = 0
    · rw [if_pos hp, if_pos hp]
      match h1 : rdWL ((bytesL s).drop u.toNat) with
      | none =>
        rw [rdWV_none (b := restS s u) (by rw [bytesL_rest]; exact h1), if_pos (.inl rfl)]
        exact .inr ⟨rfl, rfl⟩
      | some (nl, m) =>
        have hx := rdWV_some (b := restS s u) (by rw [bytesL_rest]; exact h1)
        obtain ⟨n1, n2, n3, n4, _⟩ := rdWL_more (byteL_drop (bytesL_bd s) _) h1
        rw [hx, Option.bind_some]
        dsimp only
        have hsz : (strOfNums nl).size = nl.length := strOfNums_size nl
        by_cases hn : nl = []
        · rw [if_pos hn, if_pos (.inr (by rw [hsz, hn]; rfl))]
          exact .inr ⟨rfl, rfl⟩
        · have hl : nl.length ≠ 0 := fun e => hn (List.eq_nil_of_length_eq_zero e)
          rw [if_neg hn, if_neg (by rintro (c | c); cases c; omega)]
          match h2 : rdWL ((bytesL s).drop (u + m).toNat) with
          | none =>
            rw [rdWV_none (b := restS s (u + m)) (by rw [bytesL_rest]; exact h2), if_pos rfl]
            exact .inr ⟨rfl, rfl⟩
          | some (vl, k) =>
            obtain ⟨v1, v2, v3, v4, _⟩ := rdWL_more (byteL_drop (bytesL_bd s) _) h2
            rw [rdWV_some (b := restS s (u + m)) (by rw [bytesL_rest]; exact h2), Option.map_some, if_neg (show ¬ true = false by decide)]
            refine .inl ⟨_, _, rfl, ?_⟩
            dsimp only
            rw [Int.toNat_of_nonneg (by omega)]
    · rw [if_neg hp, if_neg hp]
      match h2 : rdWL ((bytesL s).drop u.toNat) with
      | none =>
        rw [rdWV_none (b := restS s u) (by rw [bytesL_rest]; exact h2), if_pos rfl]
        exact .inr ⟨rfl, rfl⟩
      | some (vl, k) =>
        obtain ⟨v1, v2, v3, v4, _⟩ := rdWL_more (byteL_drop (bytesL_bd s) _) h2
        rw [rdWV_some (b := restS s u) (by rw [bytesL_rest]; exact h2), Option.map_some, if_neg (show ¬ true = false by decide)]
        refine .inl ⟨_, _, rfl, ?_⟩
        dsimp only
        rw [Int.toNat_of_nonneg (by omega)]
        rfl
theorem infoW3 : (Tryz.prog.info? 77).map (·.size) = some 3 := by kernel_rfl
theorem load_wds {w : World} {g : Nat} {x y z : Value} (hg : w.heap[g]? = some (.cells #[x, y, z] 77 (0, 0))) : (loadVar 77 ⟨g, 0, none⟩).run Tryz.prog w = .ok (.agg #[x, y, z]) w :=
  run_loadVar_row w g 77 77 #[x, y, z] (0, 0) _ hg Tryz.underlying77 rfl infoW3
set_option maxRecDepth 100000 in
set_option maxHeartbeats 4000000 in
theorem wordsRead_any (s : ByteArray) (bits : Int) (w : World) (hs : s.size ≤ 1000) (b0 : 3 ≤ bits) (b1 : bits ≤ 7) :
    Calls Tryz.prog 44 #[.string s, .int .i64 bits] w fun e w' => e = .returned (.tuple #[.agg #[.int .i64 (wordsV s bits).1.1, .string (wordsV s bits).1.2.1, .string (wordsV s bits).1.2.2], .int .i64 (wordsV s bits).2.1, .bool (wordsV s bits).2.2]) ∧ Below w.heap.size w w' := by
  have hrd := fun w => numRead_any s bits w (by unfold maxLen; omega)
  have hP : 8 ≤ pw bits ∧ pw bits ≤ 128 := pw_bd bits b0 b1
  have hrd2 : rdV s bits = rd (pw bits) (bytesL s) := by unfold rdV; rw [if_pos ⟨b0, b1⟩]
  have hb1 : Below w.heap.size w (w.alloc (.cells #[.int .i64 0, .string ⟨#[]⟩, .string ⟨#[]⟩] 77)) := (Below.refl _ _).alloc (Nat.le_refl _) _
  have hR0 : Hid ((w.alloc (.cells #[.int .i64 0, .string ⟨#[]⟩, .string ⟨#[]⟩] 77)).heap[w.heap.size]? = some (.cells #[.int .i64 0, .string ⟨#[]⟩, .string ⟨#[]⟩] 77 (0, 0))) := heap_alloc_last w _
  unfold tupV at hrd
  obtain ⟨⟨p, u, ok⟩, hr⟩ : ∃ r, rdV s bits = r := ⟨_, rfl⟩
  unfold wordsV
  rw [hr] at hrd ⊢
  dsimp only at hrd ⊢
  cases ok with
  | false =>
    rw [if_pos rfl]
    unfold zW
    dsimp only
    go_enter Tryz.func44, Tryz.ntmps44
    go_wp2_with (go_at_call 43; refine (hrd _).mono ?_; clear hrd; rintro e w1 ⟨rfl, hbN⟩; have hR1 := blkH hbN hR0.out; obtain ⟨r0, r1, r2⟩ := row3c hR1; have f0 := frz 0 hR1; have f1 := frz 1 hR1; have f2 := frz 2 hR1)
    exact bodyPost_ret (results_cell_tmp2 rfl _ _ w.heap.size #[.int .i64 0, .string ⟨#[]⟩, .string ⟨#[]⟩] rfl (load_wds (set3_heap _ _ _ hR1))) rfl ⟨rfl, bel3 (bt' hb1 hbN) (Nat.le_refl _) _ _ _⟩
  | true =>
    rw [if_neg (by decide)]
    rw [hr] at hrd2
    obtain ⟨p0, p1, u0, u1, _⟩ := rd_more (bytesL_bd s) hP.1 hP.2 hrd2.symm
    rw [bytesL_length] at u1
    have hsl := fun W => slice_rest s u (by omega) u1 W
    have hw1 := fun w => implRead (restS s u) w (by have := rest_size s u; unfold maxLen; omega)
    have hz1 := rest_size s u
    have hrb := bytesL_rest s u
    clear hr hrd2 hP
    by_cases hp : p = 0
    · subst hp
      rw [if_pos rfl]
      obtain ⟨⟨nm, m, fine⟩, hx⟩ : ∃ r, rdWV (restS s u) = r := ⟨_, rfl⟩
      rw [hx] at hw1 ⊢
      dsimp only at hw1 ⊢
      cases fine with
      | false =>
        rw [if_pos (.inl rfl)]
        unfold zW
        dsimp only
        clear hx hrb
        go_enter Tryz.func44, Tryz.ntmps44
        go_wp2_with (first | (go_at_call 43; refine (hrd _).mono ?_; clear hrd; rintro e w1 ⟨rfl, hbN⟩; have hR1 := blkT (blkH hbN hR0.out) (.cells #[.int .i64 0, .string ⟨#[]⟩, .string ⟨#[]⟩] 77); have hL1 := heap_alloc_last w1 (.cells #[.int .i64 0, .string ⟨#[]⟩, .string ⟨#[]⟩] 77); have hbw := bt' hb1 hbN; have hB1 := hbw.alloc hbw.size (.cells #[.int .i64 0, .string ⟨#[]⟩, .string ⟨#[]⟩] 77); have hlt : w.heap.size < w1.heap.size := (Array.getElem?_eq_some_iff.1 (blkH hbN hR0.out)).1) | (go_at_call 68; refine (hw1 _).mono ?_; clear hw1; rintro e w2 ⟨rfl, hb2⟩; have hR2 := blkH hb2 hR1; obtain ⟨r0, r1, r2⟩ := row3c hR2; have f0 := frz 0 hR2; have f1 := frz 1 hR2; have f2 := frz 2 hR2; have hB2 := bt' hB1 hb2))
        exact bodyPost_ret (results_cell_tmp2 rfl _ _ w.heap.size #[.int .i64 0, .string ⟨#[]⟩, .string ⟨#[]⟩] rfl (load_wds (set3_heap _ _ _ hR2))) rfl ⟨rfl, bel3 hB2 (Nat.le_refl _) _ _ _⟩
      | true =>
        obtain ⟨wnm, m0, m1, _⟩ := rdWV_strict hx
        by_cases hnz : nm.size = 0
        · rw [if_pos (.inr hnz)]
          have hem := isEmpty_true hnz
          unfold zW
          dsimp only
          clear hx hrb
          go_enter Tryz.func44, Tryz.ntmps44
          go_wp2_with (first | (go_at_call 43; refine (hrd _).mono ?_; clear hrd; rintro e w1 ⟨rfl, hbN⟩; have hR1 := blkT (blkH hbN hR0.out) (.cells #[.int .i64 0, .string ⟨#[]⟩, .string ⟨#[]⟩] 77); have hL1 := heap_alloc_last w1 (.cells #[.int .i64 0, .string ⟨#[]⟩, .string ⟨#[]⟩] 77); have hbw := bt' hb1 hbN; have hB1 := hbw.alloc hbw.size (.cells #[.int .i64 0, .string ⟨#[]⟩, .string ⟨#[]⟩] 77); have hlt : w.heap.size < w1.heap.size := (Array.getElem?_eq_some_iff.1 (blkH hbN hR0.out)).1) | (go_at_call 68; refine (hw1 _).mono ?_; clear hw1; rintro e w2 ⟨rfl, hb2⟩; have hR2 := blkH hb2 hR1; obtain ⟨r0, r1, r2⟩ := row3c hR2; have f0 := frz 0 hR2; have f1 := frz 1 hR2; have f2 := frz 2 hR2; have hB2 := bt' hB1 hb2))
          exact bodyPost_ret (results_cell_tmp2 rfl _ _ w.heap.size #[.int .i64 0, .string ⟨#[]⟩, .string ⟨#[]⟩] rfl (load_wds (set3_heap _ _ _ hR2))) rfl ⟨rfl, bel3 hB2 (Nat.le_refl _) _ _ _⟩
        · rw [if_neg (by simp [hnz])]
          have hem := isEmpty_false (s := nm) (by omega)
          have hum : u + m ≤ s.size := by
            have : ((restS s u).size : Int) = s.size - u := by
              rw [← bytesL_length, hrb, List.length_drop, bytesL_length]
              omega
            omega
          have hsl2 := fun W => slice_rest s (u + m) (by omega) hum W
          have hw2 := fun w => implRead (restS s (u + m)) w (by have := rest_size s (u + m); unfold maxLen; omega)
          have hz2 := rest_size s (u + m)
          have hvb := rdWV_two (restS s (u + m))
          obtain ⟨⟨vl, k, ok2⟩, hy⟩ : ∃ r, rdWV (restS s (u + m)) = r := ⟨_, rfl⟩
          rw [hy] at hw2 hvb ⊢
          have hk : 0 ≤ k ∧ k ≤ 1000 := by
            rcases hvb with e | ⟨x, q, e⟩
            · injection e with _ e; injection e with e _; omega
            · injection e with _ e; injection e with e e2; subst e e2
              have := rdWV_strict hy
              omega
          dsimp only at hw2 ⊢
          obtain ⟨rst, hrst⟩ : ∃ r, restS s u = r := ⟨_, rfl⟩
          obtain ⟨rst2, hrst2⟩ : ∃ r, restS s (u + m) = r := ⟨_, rfl⟩
          rw [hrst] at hsl hw1 hz1
          rw [hrst2] at hsl2 hw2 hz2
          clear hx hrb hy hvb hrst hrst2 wnm
          cases ok2 with
          | false =>
            rw [if_pos rfl]
            unfold zW
            dsimp only
            go_enter Tryz.func44, Tryz.ntmps44
            go_wp2_with (first | (go_at_call 43; refine (hrd _).mono ?_; clear hrd; rintro e w1 ⟨rfl, hbN⟩; have hR1 := blkT (blkH hbN hR0.out) (.cells #[.int .i64 0, .string ⟨#[]⟩, .string ⟨#[]⟩] 77); have hL1 := heap_alloc_last w1 (.cells #[.int .i64 0, .string ⟨#[]⟩, .string ⟨#[]⟩] 77); have hbw := bt' hb1 hbN; have hB1 := hbw.alloc hbw.size (.cells #[.int .i64 0, .string ⟨#[]⟩, .string ⟨#[]⟩] 77); have hlt : w.heap.size < w1.heap.size := (Array.getElem?_eq_some_iff.1 (blkH hbN hR0.out)).1) | (go_at_call 68; refine (hw1 _).mono ?_; clear hw1; rintro e w2 ⟨rfl, hb2⟩; have hR2 := blkH hb2 hR1; have hL2 := blkH hb2 hL1; obtain ⟨r0, r1, r2⟩ := row3c hL2; have f0 := frz 0 hL2; have f1 := frz 1 hL2; have f2 := frz 2 hL2; have hB2 := bt' hB1 hb2) | (go_at_call 68; refine (hw2 _).mono ?_; clear hw2; rintro e w3 ⟨rfl, hb3⟩; have hR3 := blkH hb3 (setc_other (B := w1.heap.size) 1 (.string nm) hR2 (by omega)); have hL3 := blkH hb3 (setc_heap 1 (.string nm) hL2); obtain ⟨t0, t1, t2⟩ := row3c hL3; obtain ⟨v0, v1, v2⟩ := row3c hR3; have g0 := frz 0 hL3; have g1 := frz 1 hL3; have g2 := frz 2 hL3; have d0 := frz 0 hR3; have d1 := frz 1 hR3; have d2 := frz 2 hR3; have hB3 := bt' (hB2.setCell (p := ⟨w1.heap.size, 1, none⟩) (by show w.heap.size ≤ w1.heap.size; omega) (.string nm)) hb3))
            exact bodyPost_ret (results_cell_tmp2 rfl _ _ w.heap.size #[.int .i64 0, .string ⟨#[]⟩, .string ⟨#[]⟩] rfl (load_wds (set3_heap _ _ _ hR3))) rfl ⟨rfl, bel3 hB3 (Nat.le_refl _) _ _ _⟩
          | true =>
            rw [if_neg (by decide)]
            dsimp only
            go_enter Tryz.func44, Tryz.ntmps44
            go_wp2_with (first | (go_at_call 43; refine (hrd _).mono ?_; clear hrd; rintro e w1 ⟨rfl, hbN⟩; have hR1 := blkT (blkH hbN hR0.out) (.cells #[.int .i64 0, .string ⟨#[]⟩, .string ⟨#[]⟩] 77); have hL1 := heap_alloc_last w1 (.cells #[.int .i64 0, .string ⟨#[]⟩, .string ⟨#[]⟩] 77); have hbw := bt' hb1 hbN; have hB1 := hbw.alloc hbw.size (.cells #[.int .i64 0, .string ⟨#[]⟩, .string ⟨#[]⟩] 77); have hlt : w.heap.size < w1.heap.size := (Array.getElem?_eq_some_iff.1 (blkH hbN hR0.out)).1) | (go_at_call 68; refine (hw1 _).mono ?_; clear hw1; rintro e w2 ⟨rfl, hb2⟩; have hR2 := blkH hb2 hR1; have hL2 := blkH hb2 hL1; obtain ⟨r0, r1, r2⟩ := row3c hL2; have f0 := frz 0 hL2; have f1 := frz 1 hL2; have f2 := frz 2 hL2; have hB2 := bt' hB1 hb2) | (go_at_call 68; refine (hw2 _).mono ?_; clear hw2; rintro e w3 ⟨rfl, hb3⟩; have hR3 := blkH hb3 (setc_other (B := w1.heap.size) 1 (.string nm) hR2 (by omega)); have hL3 := blkH hb3 (setc_heap 1 (.string nm) hL2); obtain ⟨t0, t1, t2⟩ := row3c hL3; obtain ⟨v0, v1, v2⟩ := row3c hR3; have g0 := frz 0 hL3; have g1 := frz 1 hL3; have g2 := frz 2 hL3; have d0 := frz 0 hR3; have d1 := frz 1 hR3; have d2 := frz 2 hR3; have hB3 := bt' (hB2.setCell (p := ⟨w1.heap.size, 1, none⟩) (by show w.heap.size ≤ w1.heap.size; omega) (.string nm)) hb3))
            exact bodyPost_ret (results_cell_tmp2 rfl _ _ w.heap.size #[.int .i64 0, .string nm, .string vl] rfl (load_wds (set3_heap _ _ _ (setc_other (B := w1.heap.size) 2 (.string vl) hR3 (by omega))))) rfl ⟨rfl, bel3 (hB3.setCell (p := ⟨w1.heap.size, 2, none⟩) (by show w.heap.size ≤ w1.heap.size; omega) (.string vl)) (Nat.le_refl _) _ _ _⟩
    · rw [if_neg hp]
      have hvb := rdWV_two (restS s u)
      obtain ⟨⟨vl, k, ok2⟩, hy⟩ : ∃ r, rdWV (restS s u) = r := ⟨_, rfl⟩
      rw [hy] at hw1 hvb ⊢
      have hk : 0 ≤ k ∧ k ≤ 1000 := by
        rcases hvb with e | ⟨x, q, e⟩
        · injection e with _ e; injection e with e _; omega
        · injection e with _ e; injection e with e e2; subst e e2
          have := rdWV_strict hy
          omega
      dsimp only at hw1 ⊢
      obtain ⟨rst, hrst⟩ : ∃ r, restS s u = r := ⟨_, rfl⟩
      rw [hrst] at hsl hw1 hz1
      clear hrb hy hvb hrst
      cases ok2 with
      | false =>
        rw [if_pos rfl]
        unfold zW
        dsimp only
        go_enter Tryz.func44, Tryz.ntmps44
        go_wp2_with (first | (go_at_call 43; refine (hrd _).mono ?_; clear hrd; rintro e w1 ⟨rfl, hbN⟩; have hR1 := blkT (blkH hbN hR0.out) (.cells #[.int .i64 p, .string ⟨#[]⟩, .string ⟨#[]⟩] 77); have hL1 := heap_alloc_last w1 (.cells #[.int .i64 p, .string ⟨#[]⟩, .string ⟨#[]⟩] 77); have hbw := bt' hb1 hbN; have hB1 := hbw.alloc hbw.size (.cells #[.int .i64 p, .string ⟨#[]⟩, .string ⟨#[]⟩] 77); have hlt : w.heap.size < w1.heap.size := (Array.getElem?_eq_some_iff.1 (blkH hbN hR0.out)).1) | (go_at_call 68; refine (hw1 _).mono ?_; clear hw1; rintro e w2 ⟨rfl, hb2⟩; have hR2 := blkH hb2 hR1; have hL2 := blkH hb2 hL1; obtain ⟨t0, t1, t2⟩ := row3c hL2; obtain ⟨v0, v1, v2⟩ := row3c hR2; have g0 := frz 0 hL2; have g1 := frz 1 hL2; have g2 := frz 2 hL2; have d0 := frz 0 hR2; have d1 := frz 1 hR2; have d2 := frz 2 hR2; have hB2 := bt' hB1 hb2))
        exact bodyPost_ret (results_cell_tmp2 rfl _ _ w.heap.size #[.int .i64 0, .string ⟨#[]⟩, .string ⟨#[]⟩] rfl (load_wds (set3_heap _ _ _ hR2))) rfl ⟨rfl, bel3 hB2 (Nat.le_refl _) _ _ _⟩
      | true =>
        rw [if_neg (by decide)]
        dsimp only
        go_enter Tryz.func44, Tryz.ntmps44
        go_wp2_with (first | (go_at_call 43; refine (hrd _).mono ?_; clear hrd; rintro e w1 ⟨rfl, hbN⟩; have hR1 := blkT (blkH hbN hR0.out) (.cells #[.int .i64 p, .string ⟨#[]⟩, .string ⟨#[]⟩] 77); have hL1 := heap_alloc_last w1 (.cells #[.int .i64 p, .string ⟨#[]⟩, .string ⟨#[]⟩] 77); have hbw := bt' hb1 hbN; have hB1 := hbw.alloc hbw.size (.cells #[.int .i64 p, .string ⟨#[]⟩, .string ⟨#[]⟩] 77); have hlt : w.heap.size < w1.heap.size := (Array.getElem?_eq_some_iff.1 (blkH hbN hR0.out)).1) | (go_at_call 68; refine (hw1 _).mono ?_; clear hw1; rintro e w2 ⟨rfl, hb2⟩; have hR2 := blkH hb2 hR1; have hL2 := blkH hb2 hL1; obtain ⟨t0, t1, t2⟩ := row3c hL2; obtain ⟨v0, v1, v2⟩ := row3c hR2; have g0 := frz 0 hL2; have g1 := frz 1 hL2; have g2 := frz 2 hL2; have d0 := frz 0 hR2; have d1 := frz 1 hR2; have d2 := frz 2 hR2; have hB2 := bt' hB1 hb2))
        exact bodyPost_ret (results_cell_tmp2 rfl _ _ w.heap.size #[.int .i64 p, .string ⟨#[]⟩, .string vl] rfl (load_wds (set3_heap _ _ _ (setc_other (B := w1.heap.size) 2 (.string vl) hR2 (by omega))))) rfl ⟨rfl, bel3 (hB2.setCell (p := ⟨w1.heap.size, 2, none⟩) (by show w.heap.size ≤ w1.heap.size; omega) (.string vl)) (Nat.le_refl _) _ _ _⟩
end Go.Proofs.YtbhoafiolalgaaaGreat

namespace Go.Proofs.YtbhoafiolalgaaaGreat
open Go.RowKit
set_option linter.unusedVariables false

set_option maxRecDepth 100000 in
set_option maxHeartbeats 4000000 in
theorem formRead_any (s : ByteArray) (w : World) (hs : s.size ≤ 1000) (h0 : 0 < s.size) :
    Calls Tryz.prog 24 #[.string s] w fun e w' => ((∃ m u, formL (bytesL s) = some (m, u) ∧ e = .returned (.tuple #[fmVal m, .int .i64 (u : Int), .bool true])) ∨ (formL (bytesL s) = none ∧ ∃ v u, e = .returned (.tuple #[v, .int .i64 u, .bool false]))) ∧ Below w.heap.size w w' := by
  obtain ⟨x0, hx0⟩ : ∃ x, b0L s = x := ⟨_, rfl⟩
  obtain ⟨hk, q0, x00, x01⟩ := of_cons (s := s) (k := 0) (x := x0) rfl (by
    unfold b0L at hx0
    have hl : 0 < (bytesL s).length := by rw [bytesL_length]; exact h0
    match hb : bytesL s with
    | [] => rw [hb] at hl; simp at hl
    | c :: t => rw [hb] at hx0; simp at hx0; rw [hx0]; rfl)
  have hb0 : (bytesL s).headD 0 = x0 := hx0
  have hbe7 := fun w => begins7 s x0 w hk q0 x00 x01
  have hbe6 := fun w => begins6 s x0 w hk q0 x00 x01
  have hbe4 := fun w => begins4 s x0 w hk q0 x00 x01
  have hwd := fun (bits : Int) (b0 : 3 ≤ bits) (b1 : bits ≤ 7) w => wordsRead_any s bits w hs b0 b1
  by_cases h1 : 128 ≤ x0
  · rw [decide_eq_true (show x0 / 128 = 1 by omega)] at hbe7
    have hrd := fun w => numRead_any s 7 w (by unfold maxLen; omega)
    unfold tupV at hrd
    have hrd2 : rdV s 7 = rd 128 (bytesL s) := by unfold rdV; rw [if_pos ⟨by decide, by decide⟩, pw7]
    obtain ⟨⟨p, u, ok⟩, hr⟩ : ∃ r, rd 128 (bytesL s) = r := ⟨_, rfl⟩
    rw [hrd2, hr] at hrd
    dsimp only at hrd
    have HV : Hid (formL (bytesL s) = if ok then some (⟨0, ⟨p, [], []⟩⟩, u.toNat) else none) := by
      show formL (bytesL s) = _
      unfold formL
      rw [hb0, if_pos h1, hr]
    have HU : Hid (ok = true → 0 ≤ u) := by
      intro e
      rw [e] at hr
      have := rd_more (bytesL_bd s) (by decide) (by decide) hr
      omega
    clear hr hrd2 hwd hbe6 hbe4 hb0 hx0
    go_enter Tryz.func24, Tryz.ntmps24
    go_wp2_with (first | (go_at_call 42; refine (hbe7 _).mono ?_; clear hbe7; rintro e wb ⟨rfl, rfl⟩) | (go_at_call 43; refine (hrd _).mono ?_; clear hrd; rintro e w1 ⟨rfl, hb1⟩))
    go_ret3
    refine ⟨?_, hb1⟩
    cases ok with
    | true =>
      refine .inl ⟨_, _, by rw [HV.out, if_pos rfl], ?_⟩
      rw [Int.toNat_of_nonneg (HU.out rfl)]
      rfl
    | false => exact .inr ⟨by rw [HV.out]; rfl, _, _, rfl⟩
  · rw [decide_eq_false (show ¬ x0 / 128 = 1 by omega)] at hbe7
    by_cases h2 : 64 ≤ x0
    · rw [decide_eq_true (show x0 / 64 = 1 by omega)] at hbe6
      have hwr := fun w => hwd 6 (by decide) (by decide) w
      have hcase := wordsV_is s 6 (by decide) (by decide)
      rw [pw6] at hcase
      obtain ⟨⟨⟨p, nm, v⟩, u, ok⟩, hr⟩ : ∃ r, wordsV s 6 = r := ⟨_, rfl⟩
      rw [hr] at hwr hcase
      dsimp only at hwr
      have HV : Hid (formL (bytesL s) = (litL 64 (bytesL s)).map fun x => (⟨1, x.1⟩, x.2)) := by
        show formL (bytesL s) = _
        unfold formL
        rw [hb0, if_neg h1, if_pos h2]
      have HC : Hid _ := hcase
      clear hr hwd hbe4 hb0 hx0 hcase
      go_enter Tryz.func24, Tryz.ntmps24
      go_wp2_with (first | (go_at_call 42; refine (hbe7 _).mono ?_; clear hbe7; rintro e wb ⟨rfl, rfl⟩) | (go_at_call 42; refine (hbe6 _).mono ?_; clear hbe6; rintro e wb ⟨rfl, rfl⟩) | (go_at_call 44; refine (hwr _).mono ?_; clear hwr; rintro e w1 ⟨rfl, hb1⟩))
      go_ret3
      refine ⟨?_, hb1.alloc hb1.size _⟩
      rcases HC.out with ⟨x, k, e1, e2⟩ | ⟨e1, e2⟩
      · injection e2 with e2 e3
        injection e2 with e2 e4
        injection e4 with e4 e5
        injection e3 with e3 e6
        subst e2 e3 e4 e5 e6
        exact .inl ⟨_, _, by rw [HV.out, e1]; rfl, rfl⟩
      · injection e2 with _ e3
        injection e3 with _ e6
        subst e6
        exact .inr ⟨by rw [HV.out, e1]; rfl, _, _, rfl⟩
    · rw [decide_eq_false (show ¬ x0 / 64 = 1 by omega)] at hbe6
      by_cases h3 : 16 ≤ x0 ∧ x0 ≤ 31
      · rw [decide_eq_true (show x0 / 16 = 1 by omega)] at hbe4
        have hwr := fun w => hwd 4 (by decide) (by decide) w
        have hcase := wordsV_is s 4 (by decide) (by decide)
        rw [pw4] at hcase
        obtain ⟨⟨⟨p, nm, v⟩, u, ok⟩, hr⟩ : ∃ r, wordsV s 4 = r := ⟨_, rfl⟩
        rw [hr] at hwr hcase
        dsimp only at hwr
        have HV : Hid (formL (bytesL s) = (litL 16 (bytesL s)).map fun x => (⟨2, x.1⟩, x.2)) := by
          show formL (bytesL s) = _
          unfold formL
          rw [hb0, if_neg h1, if_neg h2, if_pos h3]
        have HC : Hid _ := hcase
        clear hr hwd hb0 hx0 hcase
        go_enter Tryz.func24, Tryz.ntmps24
        go_wp2_with (first | (go_at_call 42; refine (hbe7 _).mono ?_; clear hbe7; rintro e wb ⟨rfl, rfl⟩) | (go_at_call 42; refine (hbe6 _).mono ?_; clear hbe6; rintro e wb ⟨rfl, rfl⟩) | (go_at_call 42; refine (hbe4 _).mono ?_; clear hbe4; rintro e wb ⟨rfl, rfl⟩) | (go_at_call 44; refine (hwr _).mono ?_; clear hwr; rintro e w1 ⟨rfl, hb1⟩))
        go_ret3
        refine ⟨?_, hb1.alloc hb1.size _⟩
        rcases HC.out with ⟨x, k, e1, e2⟩ | ⟨e1, e2⟩
        · injection e2 with e2 e3
          injection e2 with e2 e4
          injection e4 with e4 e5
          injection e3 with e3 e6
          subst e2 e3 e4 e5 e6
          exact .inl ⟨_, _, by rw [HV.out, e1]; rfl, rfl⟩
        · injection e2 with _ e3
          injection e3 with _ e6
          subst e6
          exact .inr ⟨by rw [HV.out, e1]; rfl, _, _, rfl⟩
      · rw [decide_eq_false (show ¬ x0 / 16 = 1 by omega)] at hbe4
        have HV : Hid (formL (bytesL s) = none) := by
          show formL (bytesL s) = none
          unfold formL
          rw [hb0, if_neg h1, if_neg h2, if_neg h3]
        clear hwd hb0 hx0
        go_enter Tryz.func24, Tryz.ntmps24
        go_wp2_with (first | (go_at_call 42; refine (hbe7 _).mono ?_; clear hbe7; rintro e wb ⟨rfl, rfl⟩) | (go_at_call 42; refine (hbe6 _).mono ?_; clear hbe6; rintro e wb ⟨rfl, rfl⟩) | (go_at_call 42; refine (hbe4 _).mono ?_; clear hbe4; rintro e wb ⟨rfl, rfl⟩))
        go_ret3
        exact ⟨.inr ⟨HV.out, _, _, rfl⟩, Below.refl _ _⟩
/-- The step of a form, whatever it is: the table's row is as it was, or new. -/
theorem step_any (gs : List Fd) (a : Option Addr) (n cap : Nat) (max : Int) (m : Fm) (w : World) (hf : Fs w a n cap gs) (ht : tOk gs max = true) (hm : FmOk m) :
    Calls Tryz.prog 25 #[.agg #[.slice a n cap, .int .i64 max], fmVal m] w fun e w' =>
      ((∃ ys f a2 n2 c2, stepL gs max m = some (ys, f) ∧ e = .returned (.tuple #[.agg #[.slice a2 n2 c2, .int .i64 max], f.val, .bool true]) ∧ (((a2 = a ∧ n2 = n ∧ c2 = cap) ∧ ys = gs) ∨ (n2 = ys.length ∧ w'.ownsRow w.heap.size 52 3 (.slice a2 n2 c2) n2 (cellsF ys)))) ∨
       (stepL gs max m = none ∧ ∃ (a2 : Option Addr) (n2 c2 : Nat) (mx : Int) (f : Fd), e = .returned (.tuple #[.agg #[.slice a2 n2 c2, .int .i64 mx], f.val, .bool false]))) ∧ Below w.heap.size w w' := by
  unfold fmVal
  by_cases h0 : m.k = 0
  · rw [if_pos h0]
    refine (step_found gs a n cap max m.w.p w hf ht).mono ?_
    rintro e w' ⟨rfl, hb⟩
    refine ⟨?_, hb⟩
    cases hok : (atV gs m.w.p).2 with
    | true => exact .inl ⟨gs, _, a, n, cap, by unfold stepL; rw [if_pos h0, hok]; rfl, rfl, .inl ⟨⟨rfl, rfl, rfl⟩, rfl⟩⟩
    | false => exact .inr ⟨by unfold stepL; rw [if_pos h0, hok]; rfl, _, _, _, _, _, rfl⟩
  · rw [if_neg h0]
    have hfv : (nameOf gs m.w = none ∧ (fieldV gs m.w.p (strOfNums m.w.n) (strOfNums m.w.v)).2 = false) ∨ ∃ nm, nameOf gs m.w = some nm ∧ fieldV gs m.w.p (strOfNums m.w.n) (strOfNums m.w.v) = (⟨nm, strOfNums m.w.v, false⟩, true) := by
      unfold nameOf fieldV
      by_cases hp : m.w.p = 0
      · rw [if_pos hp, if_pos hp]; exact .inr ⟨_, rfl, rfl⟩
      · rw [if_neg hp, if_neg hp]
        cases hok : (atV gs m.w.p).2 with
        | true => exact .inr ⟨_, rfl, rfl⟩
        | false => exact .inl ⟨rfl, rfl⟩
    by_cases h1 : m.k = 1
    · rw [if_pos h1]
      have hsz : (fieldV gs m.w.p (strOfNums m.w.n) (strOfNums m.w.v)).1.n.size ≤ 1000 ∧ (fieldV gs m.w.p (strOfNums m.w.n) (strOfNums m.w.v)).1.v.size ≤ 1000 := by
        have hv : (strOfNums m.w.v).size ≤ 1000 := by rw [strOfNums_size]; have := hm.v.2; omega
        unfold fieldV
        by_cases hp : m.w.p = 0
        · rw [if_pos hp]
          refine ⟨?_, hv⟩
          show (strOfNums m.w.n).size ≤ 1000
          rw [strOfNums_size]
          have := (hm.n h0 hp).2.1
          omega
        · rw [if_neg hp]
          refine ⟨?_, hv⟩
          show (atV gs m.w.p).1.n.size ≤ 1000
          cases hok : (atV gs m.w.p).2 with
          | true =>
            have := nm16 ht _ (atV_some hok)
            omega
          | false =>
            unfold atV at hok ⊢
            split at hok
            · simp at hok
            · rename_i hc
              rw [if_neg hc]
              show (0 : Nat) ≤ 1000
              omega
      refine (step_added gs a n cap max m.w.p _ _ w hf ht hsz).mono ?_
      rintro e w' ⟨a2, c2, rfl, hown, hb⟩
      refine ⟨?_, hb⟩
      rcases hfv with ⟨hn, hb2⟩ | ⟨nm, hn, hb2⟩
      · rw [hb2]
        exact .inr ⟨by unfold stepL; rw [if_neg h0, if_pos h1, hn]; rfl, _, _, _, _, _, rfl⟩
      · have hst : stepL gs max m = some (fitL max (⟨nm, strOfNums m.w.v, false⟩ :: gs), ⟨nm, strOfNums m.w.v, false⟩) := by unfold stepL; rw [if_neg h0, if_pos h1, hn]; rfl
        have hfo := (step_ok ht hm hst).2
        rw [hb2] at hown ⊢
        dsimp only at hown ⊢
        rw [addV_ok ht hfo] at hown ⊢
        dsimp only at hown ⊢
        exact .inl ⟨_, _, a2, _, c2, hst, rfl, .inr ⟨rfl, hown⟩⟩
    · rw [if_neg h1]
      refine (step_never gs a n cap max m.w.p _ _ w hf ht).mono ?_
      rintro e w' ⟨rfl, hb⟩
      refine ⟨?_, hb⟩
      rcases hfv with ⟨hn, hb2⟩ | ⟨nm, hn, hb2⟩
      · rw [hb2]
        exact .inr ⟨by unfold stepL; rw [if_neg h0, if_neg h1, hn]; rfl, _, _, _, _, _, rfl⟩
      · rw [hb2]
        exact .inl ⟨gs, _, a, n, cap, by unfold stepL; rw [if_neg h0, if_neg h1, hn]; rfl, rfl, .inl ⟨⟨rfl, rfl, rfl⟩, rfl⟩⟩
end Go.Proofs.YtbhoafiolalgaaaGreat
