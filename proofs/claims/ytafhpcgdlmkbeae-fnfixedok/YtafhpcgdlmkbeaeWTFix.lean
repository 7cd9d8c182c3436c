import Derived.Test.YtafhpcgdlmkbeaeTL2
import Derived.Test.YtafhpcgdlmkbeaeTDraw5
import Derived.Test.YtafhpcgdlmkbeaeTI6
import Derived.Deep.RegionHeld3
namespace Go.Proofs.Ytafhpcgdlmkbeae
open Go.RowKit
set_option linter.unusedVariables false

theorem fixed_ok (k : Nat) (h : k < 6) : fOk (fixedL[k]'h) = true := by
  have key : ∀ k : Fin 6, fOk (fixedL[k.1]'k.2) = true := by decide +kernel
  exact key ⟨k, h⟩
theorem fixed_sm (k : Nat) (h : k < 6) : (fixedL[k]'h).n.size ≤ 20 ∧ (fixedL[k]'h).v.size ≤ 20 := by
  have key : ∀ k : Fin 6, (fixedL[k.1]'k.2).n.size ≤ 20 ∧ (fixedL[k.1]'k.2).v.size ≤ 20 := by decide +kernel
  exact key ⟨k, h⟩
theorem fixed_fl (fs : List Fd) (k : Nat) (h : k < 6) : flP (fixedL[k]'h) (fixedL ++ fs) 0 = k + 1 := by
  have key : ∀ k : Fin 6, flP (fixedL[k.1]'k.2) (fixedL ++ fs) 0 = k.1 + 1 := by
    intro k
    rcases k with ⟨k, hk⟩
    rcases (by omega : k = 0 ∨ k = 1 ∨ k = 2 ∨ k = 3 ∨ k = 4 ∨ k = 5) with rfl | rfl | rfl | rfl | rfl | rfl
    · exact rfl
    · exact rfl
    · exact rfl
    · exact rfl
    · exact rfl
    · exact rfl
  exact key ⟨k, h⟩
theorem fixed_find {fs : List Fd} {max : Int} (ht : tOk fs max = true) (k : Nat) (h : k < 6) : tabFind fs max (fixedL[k]'h) = (k + 1, true) := by
  have h6 : findV fs (fixedL[k]'h) = (k + 1, true) := by
    unfold findV
    rw [fixed_fl fs k h, if_neg (by omega)]
  unfold tabFind
  rw [ht, fixed_ok k h, h6]
  rfl
theorem fixed_at {fs : List Fd} {max : Int} (ht : tOk fs max = true) (k : Nat) (h : k < 6) : tabAt fs max ((k : Int) + 1) = (fixedL[k]'h, true) := by
  unfold tabAt atV
  have hk : k < fixedL.length := h
  rw [ht, if_pos rfl, if_pos (by omega), show ((k : Int) + 1 - 1).toNat = k by omega, List.getD_eq_getElem?_getD, List.getElem?_append_left hk, List.getElem?_eq_getElem hk, Option.getD_some]
  rfl

set_option maxRecDepth 100000 in
set_option maxHeartbeats 20000000 in
theorem fnFixedOk_walk (a0 : Option Addr) (len0 cap0 : Nat) (z0 : List Int) (a1 : Option Addr) (len1 cap1 : Nat) (z1 : List Int) (w : World) (w0 : Row w a0 len0 cap0 z0) (w1 : Row w a1 len1 cap1 z1) :
    Calls Try.prog 7 #[.slice a0 len0 cap0, .slice a1 len1 cap1] w fun e w' => e = .returned (.bool true) ∧ Below w.heap.size w w' := by
  by_cases c0 : (1048576 : Int) < len0
  · clear w0 w1
    go_enter Try.func7, Try.ntmps7
    go_wp2
    go_ret
    exact ⟨rfl, Below.refl _ _⟩
  by_cases c1 : (1048576 : Int) < len1
  · clear w0 w1
    go_enter Try.func7, Try.ntmps7
    go_wp2
    go_ret
    exact ⟨rfl, Below.refl _ _⟩
  have R0 : Hid (Row w a0 len0 cap0 z0) := w0
  have R1 : Hid (Row w a1 len1 cap1 z1) := w1
  clear w0 w1
  go_enter Try.func7, Try.ntmps7
  go_wp2_with fail
  refine (drawTableFind _ _ _ _ _ R0.out).mono ?_
  rintro e wa ⟨fs, max, a', c', f, rfl, ⟨hl, hsm, m0, m1, hfs⟩, hfn, hfv, hba⟩
  have hbA : Below wa.heap.size wa ((wa.alloc (.cells #[.slice a' fs.length c', .int .i64 max] 25)).alloc (.cells #[.string f.n, .string f.v, .bool f.q] 35)) := ((Below.refl _ _).alloc (Nat.le_refl _) _).alloc (by simp) _
  have hTA : Hid (((wa.alloc (.cells #[.slice a' fs.length c', .int .i64 max] 25)).alloc (.cells #[.string f.n, .string f.v, .bool f.q] 35)).heap[wa.heap.size]? = some (.cells #[.slice a' fs.length c', .int .i64 max] 25 (0, 0))) := blkT (heap_alloc_last wa _) _
  have hFA : Hid (((wa.alloc (.cells #[.slice a' fs.length c', .int .i64 max] 25)).alloc (.cells #[.string f.n, .string f.v, .bool f.q] 35)).heap[wa.heap.size + 1]? = some (.cells #[.string f.n, .string f.v, .bool f.q] 35 (0, 0))) := by
    have h := heap_alloc_last (wa.alloc (.cells #[.slice a' fs.length c', .int .i64 max] 25)) (.cells #[.string f.n, .string f.v, .bool f.q] 35)
    rw [World.size_alloc] at h
    exact h
  have hBA := bt' hba hbA
  have HFS : Hid (Fs ((wa.alloc (.cells #[.slice a' fs.length c', .int .i64 max] 25)).alloc (.cells #[.string f.n, .string f.v, .bool f.q] 35)) a' fs.length c' fs) := hfs.below hbA
  have hoI := fun (w' : World) (h : Fs w' a' fs.length c' fs) => implTableFind fs a' fs.length c' max f w' h hsm.bd (by omega) (by omega) (by omega)
  have hoS := fun (w' : World) (h : Fs w' a' fs.length c' fs) => specTableFind fs a' fs.length c' max f w' h hsm.bd (by omega) (by omega) (by omega)
  have hoT := fun (w' : World) (h : Fs w' a' fs.length c' fs) => specTableOk fs a' fs.length c' max w' h hsm.bd (by omega)
  have hoF := fun (w' : World) => specFieldOk f w' (by omega) (by omega)
  obtain ⟨⟨p, b⟩, hX⟩ : ∃ r, tabFind fs max f = r := ⟨_, rfl⟩
  rw [hX] at hoI hoS
  have HX : Hid (tabFind fs max f = (p, b)) := hX
  unfold Fd.val at hoI hoS hoF ⊢
  simp only at hoI hoS
  have HSM : Hid (fsSm fs) := hsm
  clear hX hsm hfs
  go_wp2_with (first | (go_at_call 23; refine (hoS _ HFS.out).mono ?_; clear hoS; rintro e wb ⟨rfl, hbb⟩; have hTb := blkB hbb hTA.out; have hFb := blkB hbb hFA.out; have hSb := HFS.out.below hbb; have hBb := bt' hBA hbb; obtain ⟨j0, j1⟩ := row2c hTb; obtain ⟨j2, j3, j4⟩ := row3c hFb) | (go_at_call 24; refine (hoI _ hSb).mono ?_; clear hoI; rintro e wc ⟨rfl, hbc⟩; have hTc := blkB hbc hTb; have hFc := blkB hbc hFb; have hSc := hSb.below hbc; have hBc := bt' hBb hbc; obtain ⟨k0, k1⟩ := row2c hTc; obtain ⟨k2, k3, k4⟩ := row3c hFc))
  clear hTb hFb hSb hBb hbb hTA hFA hBA HFS hbA hba j0 j1 j2 j3 j4 hbc
  cases ht : tOk fs max with
  | false =>
    rw [ht] at hoT
    clear ht
    refine (hoT _ hSc).mono ?_
    rintro e wd ⟨rfl, hbd⟩
    go_wp2
    go_ret
    exact ⟨rfl, bt' hBc hbd⟩
  | true =>
    rw [ht] at hoT
    have HT : Hid (tOk fs max = true) := ht
    clear ht
    refine (hoT _ hSc).mono ?_
    rintro e wd ⟨rfl, hbd⟩
    have hTd := blkB hbd hTc
    have hSd := hSc.below hbd
    have hBd := bt' hBc hbd
    clear hTc hFc hSc hBc hbd k0 k1 k2 k3 k4
    go_wp2_with fail
    refine (implTableFixed _).mono ?_
    rintro e V ⟨aX, cX, rfl, hownX, hbe⟩
    have hFx := own_Fs hownX
    obtain ⟨gX, oX, rfl⟩ := hFx.some' (by decide)
    have HSV : Hid (Fs V a' fs.length c' fs) := hSd.below hbe
    have hBV := bt' hBd hbe
    obtain ⟨q0, q1⟩ := row2c (blkB hbe hTd)
    obtain ⟨k, hk⟩ : ∃ k : Nat, (len1 : Int) % 6 = k := ⟨len1 % 6, (Int.natCast_emod len1 6).symm⟩
    have hk6 : k < 6 := by omega
    have hkI : (k : Int) < 6 := by omega
    have hk0 : (0 : Int) ≤ k := by omega
    obtain ⟨d0, d1, d2⟩ := hFx.at k hk6
    have hfi := fixed_find HT.out k hk6
    have hat := fixed_at HT.out k hk6
    have hfk := fixed_ok k hk6
    have hsy := fixed_sm k hk6
    obtain ⟨y, hy⟩ : ∃ y, fixedL[k]'hk6 = y := ⟨_, rfl⟩
    rw [hy] at d0 d1 d2 hfi hat hfk hsy
    have hcF := fun (w' : World) (hb : Below V.heap.size V w') => implTableFind fs a' fs.length c' max y w' (HSV.out.below hb) HSM.out.bd (by omega) (by omega) (by omega)
    have hcA := fun (w' : World) (hb : Below V.heap.size V w') => implTableAt fs a' fs.length c' max ((k : Int) + 1) w' (HSV.out.below hb) HSM.out.bd (by omega)
    have hcK := fun (w' : World) => implFieldOk y w' (by omega) (by omega)
    rw [hfi] at hcF
    rw [hat] at hcA
    rw [hfk] at hcK
    unfold Fd.val at hcF hcA hcK
    simp only at hcF hcA
    have hk1 : ((k + 1 : Nat) : Int) = (k : Int) + 1 := by omega
    rw [hk1] at hcF
    have hwk : IntKind.i64.wrap ((k : Int) + 1) = (k : Int) + 1 := wraps_i64_40 _ (by omega) (by omega)
    clear hy hfi hat hfk hsy hFx hownX hTd hSd hBd hbe hk1 HX
    have hkeepV : ∀ w1 w2 : World, Below w1.heap.size w1 w2 → (w1.cell? ⟨wa.heap.size, 0, none⟩ = some (.slice a' fs.length c') ∧ w1.cell? ⟨wa.heap.size, 1, none⟩ = some (.int .i64 max) ∧ w1.cell? ⟨gX, oX + k * 3, none⟩ = some (.string y.n) ∧ w1.cell? ⟨gX, oX + k * 3 + 1, none⟩ = some (.string y.v) ∧ w1.cell? ⟨gX, oX + k * 3 + 2, none⟩ = some (.bool y.q) ∧ Below V.heap.size V w1) → (w2.cell? ⟨wa.heap.size, 0, none⟩ = some (.slice a' fs.length c') ∧ w2.cell? ⟨wa.heap.size, 1, none⟩ = some (.int .i64 max) ∧ w2.cell? ⟨gX, oX + k * 3, none⟩ = some (.string y.n) ∧ w2.cell? ⟨gX, oX + k * 3 + 1, none⟩ = some (.string y.v) ∧ w2.cell? ⟨gX, oX + k * 3 + 2, none⟩ = some (.bool y.q) ∧ Below V.heap.size V w2) := by
      rintro w1 w2 hb ⟨h0, h1, h2, h3, h4, hB⟩
      exact ⟨keepc hb h0, keepc hb h1, keepc hb h2, keepc hb h3, keepc hb h4, bt' hB hb⟩
    have hBelV : ∀ w' : World, (w'.cell? ⟨wa.heap.size, 0, none⟩ = some (.slice a' fs.length c') ∧ w'.cell? ⟨wa.heap.size, 1, none⟩ = some (.int .i64 max) ∧ w'.cell? ⟨gX, oX + k * 3, none⟩ = some (.string y.n) ∧ w'.cell? ⟨gX, oX + k * 3 + 1, none⟩ = some (.string y.v) ∧ w'.cell? ⟨gX, oX + k * 3 + 2, none⟩ = some (.bool y.q) ∧ Below V.heap.size V w') → Below V.heap.size V w' := fun w' h => h.2.2.2.2.2
    have hV0 : V.cell? ⟨wa.heap.size, 0, none⟩ = some (.slice a' fs.length c') ∧ V.cell? ⟨wa.heap.size, 1, none⟩ = some (.int .i64 max) ∧ V.cell? ⟨gX, oX + k * 3, none⟩ = some (.string y.n) ∧ V.cell? ⟨gX, oX + k * 3 + 1, none⟩ = some (.string y.v) ∧ V.cell? ⟨gX, oX + k * 3 + 2, none⟩ = some (.bool y.q) ∧ Below V.heap.size V V := ⟨q0, q1, d0, d1, d2, Below.refl _ _⟩
    clear q0 q1 d0 d1 d2
    go_wp2
    have hmx : Try.prog.follows .mixedOrders = true := by kernel_rfl
    go_region_held3 (fun w' => w'.cell? ⟨wa.heap.size, 0, none⟩ = some (.slice a' fs.length c') ∧ w'.cell? ⟨wa.heap.size, 1, none⟩ = some (.int .i64 max) ∧ w'.cell? ⟨gX, oX + k * 3, none⟩ = some (.string y.n) ∧ w'.cell? ⟨gX, oX + k * 3 + 1, none⟩ = some (.string y.v) ∧ w'.cell? ⟨gX, oX + k * 3 + 2, none⟩ = some (.bool y.q) ∧ Below V.heap.size V w') (first | assumption | exact hkeepV _ _ ((Below.refl _ _).drew) hV0 | exact hkeepV _ _ hbN (by assumption)) ((first | (go_at_call 24; refine (hcF _ (hBelV _ (by assumption))).mono ?_; clear hcF; rintro e wN ⟨rfl, hbN⟩)))
    have hV1 : wN.cell? ⟨wa.heap.size, 0, none⟩ = some (.slice a' fs.length c') ∧ wN.cell? ⟨wa.heap.size, 1, none⟩ = some (.int .i64 max) ∧ wN.cell? ⟨gX, oX + k * 3, none⟩ = some (.string y.n) ∧ wN.cell? ⟨gX, oX + k * 3 + 1, none⟩ = some (.string y.v) ∧ wN.cell? ⟨gX, oX + k * 3 + 2, none⟩ = some (.bool y.q) ∧ Below V.heap.size V wN := by first | assumption | exact hkeepV _ _ hbN (by assumption)
    clear hV0
    obtain ⟨q0, q1, d0, d1, d2, qB⟩ := id hV1
    go_wp2_with (go_at_call 20; refine (hcA _ qB).mono ?_; clear hcA; rintro e w5 ⟨rfl, hb5⟩)
    have hS5 := hkeepV _ _ hb5 hV1
    have hbN : Below w5.heap.size w5 (w5.alloc (.cells #[.string y.n, .string y.v, .bool y.q] 35)) := (Below.refl _ _).alloc (Nat.le_refl _) _
    have hS6 := hkeepV _ _ hbN hS5
    obtain ⟨n0, n1, n2⟩ := row3c (heap_alloc_last w5 (.cells #[.string y.n, .string y.v, .bool y.q] 35))
    obtain ⟨_, _, e0, e1, e2, eB⟩ := hS6
    refine wabs (fun U => U.cell? ⟨w5.heap.size, 0, none⟩ = some (.string y.n) ∧ U.cell? ⟨w5.heap.size, 1, none⟩ = some (.string y.v) ∧ U.cell? ⟨w5.heap.size, 2, none⟩ = some (.bool y.q) ∧ U.cell? ⟨gX, oX + k * 3, none⟩ = some (.string y.n) ∧ U.cell? ⟨gX, oX + k * 3 + 1, none⟩ = some (.string y.v) ∧ U.cell? ⟨gX, oX + k * 3 + 2, none⟩ = some (.bool y.q) ∧ Below w.heap.size w U) ⟨n0, n1, n2, e0, e1, e2, bt' hBV eB⟩ ?_
    clear n0 n1 n2 e0 e1 e2 eB hbN hS5 hV1 q0 q1 d0 d1 d2 qB hb5
    rintro U ⟨n0, n1, n2, e0, e1, e2, hBU⟩
    have hkeepU : ∀ w1 w2 : World, Below w1.heap.size w1 w2 → (w1.cell? ⟨w5.heap.size, 0, none⟩ = some (.string y.n) ∧ w1.cell? ⟨w5.heap.size, 1, none⟩ = some (.string y.v) ∧ w1.cell? ⟨w5.heap.size, 2, none⟩ = some (.bool y.q) ∧ w1.cell? ⟨gX, oX + k * 3, none⟩ = some (.string y.n) ∧ w1.cell? ⟨gX, oX + k * 3 + 1, none⟩ = some (.string y.v) ∧ w1.cell? ⟨gX, oX + k * 3 + 2, none⟩ = some (.bool y.q) ∧ Below U.heap.size U w1) → (w2.cell? ⟨w5.heap.size, 0, none⟩ = some (.string y.n) ∧ w2.cell? ⟨w5.heap.size, 1, none⟩ = some (.string y.v) ∧ w2.cell? ⟨w5.heap.size, 2, none⟩ = some (.bool y.q) ∧ w2.cell? ⟨gX, oX + k * 3, none⟩ = some (.string y.n) ∧ w2.cell? ⟨gX, oX + k * 3 + 1, none⟩ = some (.string y.v) ∧ w2.cell? ⟨gX, oX + k * 3 + 2, none⟩ = some (.bool y.q) ∧ Below U.heap.size U w2) := by
      rintro w1 w2 hb ⟨h0, h1, h2, h3, h4, h5, hB⟩
      exact ⟨keepc hb h0, keepc hb h1, keepc hb h2, keepc hb h3, keepc hb h4, keepc hb h5, bt' hB hb⟩
    have hBelU : ∀ w' : World, (w'.cell? ⟨w5.heap.size, 0, none⟩ = some (.string y.n) ∧ w'.cell? ⟨w5.heap.size, 1, none⟩ = some (.string y.v) ∧ w'.cell? ⟨w5.heap.size, 2, none⟩ = some (.bool y.q) ∧ w'.cell? ⟨gX, oX + k * 3, none⟩ = some (.string y.n) ∧ w'.cell? ⟨gX, oX + k * 3 + 1, none⟩ = some (.string y.v) ∧ w'.cell? ⟨gX, oX + k * 3 + 2, none⟩ = some (.bool y.q) ∧ Below U.heap.size U w') → Below U.heap.size U w' := fun w' h => h.2.2.2.2.2.2
    have hU0 : U.cell? ⟨w5.heap.size, 0, none⟩ = some (.string y.n) ∧ U.cell? ⟨w5.heap.size, 1, none⟩ = some (.string y.v) ∧ U.cell? ⟨w5.heap.size, 2, none⟩ = some (.bool y.q) ∧ U.cell? ⟨gX, oX + k * 3, none⟩ = some (.string y.n) ∧ U.cell? ⟨gX, oX + k * 3 + 1, none⟩ = some (.string y.v) ∧ U.cell? ⟨gX, oX + k * 3 + 2, none⟩ = some (.bool y.q) ∧ Below U.heap.size U U := ⟨n0, n1, n2, e0, e1, e2, Below.refl _ _⟩
    clear n0 n1 n2 e0 e1 e2
    go_region_held3 (fun w' => w'.cell? ⟨w5.heap.size, 0, none⟩ = some (.string y.n) ∧ w'.cell? ⟨w5.heap.size, 1, none⟩ = some (.string y.v) ∧ w'.cell? ⟨w5.heap.size, 2, none⟩ = some (.bool y.q) ∧ w'.cell? ⟨gX, oX + k * 3, none⟩ = some (.string y.n) ∧ w'.cell? ⟨gX, oX + k * 3 + 1, none⟩ = some (.string y.v) ∧ w'.cell? ⟨gX, oX + k * 3 + 2, none⟩ = some (.bool y.q) ∧ Below U.heap.size U w') (first | assumption | exact hkeepU _ _ ((Below.refl _ _).drew) hU0 | exact hkeepU _ _ hbN (by assumption)) ((first | (go_at_call 29; refine (hcK _).mono ?_; clear hcK; rintro e wN ⟨rfl, hbN⟩)))
    go_wp2
    go_ret
    first | exact ⟨rfl, bt' hBU (hBelU _ (by first | assumption | exact hkeepU _ _ hbN (by assumption)))⟩ | exact ⟨ret_bool' (by simp), bt' hBU (hBelU _ (by first | assumption | exact hkeepU _ _ hbN (by assumption)))⟩
end Go.Proofs.Ytafhpcgdlmkbeae
