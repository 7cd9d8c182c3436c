import Derived.Test.YtafhpcgdlmkbeaeTL2
import Derived.Test.YtafhpcgdlmkbeaeTDraw4
import Derived.Test.YtafhpcgdlmkbeaeTI5
import Derived.Test.YtafhpcgdlmkbeaeTAt
import Derived.Deep.QuietTactic
import Derived.BigQuiet
namespace Go.Proofs.Ytafhpcgdlmkbeae
open Go.RowKit
set_option linter.unusedVariables false

theorem getD_at {L : List Fd} {k : Nat} (d : Fd) (h : k < L.length) : L.getD k d = L[k] := by simp [List.getD, h]

set_option maxRecDepth 100000 in
set_option maxHeartbeats 20000000 in
theorem fnTableAt_walk (a0 : Option Addr) (len0 cap0 : Nat) (z0 : List Int) (w : World) (w0 : Row w a0 len0 cap0 z0) :
    Calls Try.prog 4 #[.slice a0 len0 cap0] w fun e w' => e = .returned (.bool true) ∧ Below w.heap.size w w' := by
  by_cases c0 : (1048576 : Int) < len0
  · clear w0
    go_enter Try.func4, Try.ntmps4
    go_wp2
    go_ret
    exact ⟨rfl, Below.refl _ _⟩
  have R0 : Hid (Row w a0 len0 cap0 z0) := w0
  clear w0
  go_enter Try.func4, Try.ntmps4
  go_wp2_with fail
  refine (drawTableAt _ _ _ _ _ R0.out).mono ?_
  rintro e wa ⟨fs, max, a', c', at', rfl, ⟨hl, hsm, m0, m1, hfs⟩, t0', t1', hba⟩
  have hbA : Below wa.heap.size wa (wa.alloc (.cells #[.slice a' fs.length c', .int .i64 max] 25)) := (Below.refl _ _).alloc (Nat.le_refl _) _
  have hTA : Hid ((wa.alloc (.cells #[.slice a' fs.length c', .int .i64 max] 25)).heap[wa.heap.size]? = some (.cells #[.slice a' fs.length c', .int .i64 max] 25 (0, 0))) := heap_alloc_last wa _
  have hBA := bt' hba hbA
  have HFS : Hid (Fs (wa.alloc (.cells #[.slice a' fs.length c', .int .i64 max] 25)) a' fs.length c' fs) := hfs.below hbA
  have hoI := fun (w' : World) (h : Fs w' a' fs.length c' fs) => implTableAt fs a' fs.length c' max at' w' h hsm.bd (by omega)
  have hoS := fun (w' : World) (h : Fs w' a' fs.length c' fs) => specTableAt fs a' fs.length c' max at' w' h hsm.bd (by omega)
  have hoT := fun (w' : World) (h : Fs w' a' fs.length c' fs) => specTableOk fs a' fs.length c' max w' h hsm.bd (by omega)
  obtain ⟨⟨x, b⟩, hX⟩ : ∃ r, tabAt fs max at' = r := ⟨_, rfl⟩
  rw [hX] at hoI hoS
  have HX : Hid (tabAt fs max at' = (x, b)) := hX
  unfold Fd.val at hoI hoS
  simp only at hoI hoS
  clear hX hsm hfs
  go_wp2_with (first | (go_at_call 19; refine (hoS _ HFS.out).mono ?_; clear hoS; rintro e wb ⟨rfl, hbb⟩; have hTb := blkB hbb hTA.out; have hFb := HFS.out.below hbb; have hBb := bt' hBA hbb; have hb2 : Below wb.heap.size wb (wb.alloc (.cells #[.string x.n, .string x.v, .bool x.q] 35)) := (Below.refl _ _).alloc (Nat.le_refl _) _; have hTl := (Array.getElem?_eq_some_iff.1 hTb).1; obtain ⟨j0, j1⟩ := row2c (blkB hb2 hTb); obtain ⟨j2, j3, j4⟩ := row3c (heap_alloc_last wb (.cells #[.string x.n, .string x.v, .bool x.q] 35))) | (go_at_call 20; refine (hoI _ (hFb.below hb2)).mono ?_; clear hoI; rintro e wc ⟨rfl, hbc⟩; have hWc := blkB hbc (heap_alloc_last wb (.cells #[.string x.n, .string x.v, .bool x.q] 35)); have hTc := blkB hbc (blkB hb2 hTb); have hFc := (hFb.below hb2).below hbc; have hBc := bt' (bt' hBb hb2) hbc; have hb3 : Below wc.heap.size wc (wc.alloc (.cells #[.string x.n, .string x.v, .bool x.q] 35)) := (Below.refl _ _).alloc (Nat.le_refl _) _; have hWl := (Array.getElem?_eq_some_iff.1 hWc).1; have hTl2 := (Array.getElem?_eq_some_iff.1 hTc).1; obtain ⟨k0, k1⟩ := row2c (blkB hb3 hTc); obtain ⟨k2, k3, k4⟩ := row3c (blkB hb3 hWc); obtain ⟨k5, k6, k7⟩ := row3c (heap_alloc_last wc (.cells #[.string x.n, .string x.v, .bool x.q] 35))))
  have hb3 : Below wc.heap.size wc (wc.alloc (.cells #[.string x.n, .string x.v, .bool x.q] 35)) := (Below.refl _ _).alloc (Nat.le_refl _) _
  have hTd := blkB hb3 hTc
  have hWd := blkB hb3 hWc
  have hFd := heap_alloc_last wc (.cells #[.string x.n, .string x.v, .bool x.q] 35)
  have hFsd := hFc.below hb3
  have hBd := bt' hBc hb3
  cases ht : tOk fs max with
  | false =>
    rw [ht] at hoT
    clear ht
    refine (hoT _ hFsd).mono ?_
    rintro e wd ⟨rfl, hbd⟩
    obtain ⟨p2, p3, p4⟩ := row3c (blkB hbd hWd)
    obtain ⟨p5, p6, p7⟩ := row3c (blkB hbd hFd)
    go_wp2
    go_ret
    exact ⟨rfl, bt' hBd hbd⟩
  | true =>
    rw [ht] at hoT
    have hV : atV fs at' = (x, b) := by
      have h := HX.out
      unfold tabAt at h
      rwa [ht, if_pos rfl] at h
    have HV : Hid (atV fs at' = (x, b)) := hV
    clear ht HX hV
    refine (hoT _ hFsd).mono ?_
    rintro e wd ⟨rfl, hbd⟩
    have hFsD := hFsd.below hbd
    have hTD := blkB hbd hTd
    have hFD := blkB hbd hFd
    have hBD := bt' hBd hbd
    obtain ⟨p0, p1⟩ := row2c hTD
    obtain ⟨p2, p3, p4⟩ := row3c (blkB hbd hWd)
    obtain ⟨p5, p6, p7⟩ := row3c hFD
    clear j0 j1 j2 j3 j4 k0 k1 k2 k3 k4 k5 k6 k7 hb3 hTd hWd hFd hFsd hBd hbd hTc hWc hFc hBc hbc hb2 hTb hFb hBb hbb hTA hBA HFS hbA hba
    go_wp2_with fail
    refine (implTableFixed _).mono ?_
    rintro e we ⟨aX, cX, rfl, hownX, hbe⟩
    have hFx := own_Fs hownX
    obtain ⟨gX, oX, rfl⟩ := hFx.some' (by decide)
    have hTe := blkB hbe hTD
    have hFe := blkB hbe hFD
    have hFs := hFsD.below hbe
    have hBe := bt' hBD hbe
    obtain ⟨q0, q1⟩ := row2c hTe
    obtain ⟨q2, q3, q4⟩ := row3c hFe
    have hln := hFs.le
    clear p0 p1 p2 p3 p4 p5 p6 p7 hownX hbe hTe hFe hTD hFD hBD hFsD
    by_cases h1 : 1 ≤ at' ∧ at' ≤ 6
    · obtain ⟨h1a, h1b⟩ := h1
      obtain ⟨k, hk⟩ : ∃ k : Nat, at' - 1 = (k : Int) := ⟨(at' - 1).toNat, by omega⟩
      have hk6 : k < 6 := by omega
      have hkf : k < fixedL.length := hk6
      have hV := HV.out
      unfold atV at hV
      rw [if_pos ⟨h1a, by omega⟩, show (at' - 1).toNat = k by omega] at hV
      injection hV with hV1 hV2
      rw [List.getD_eq_getElem?_getD, List.getElem?_append_left hkf, List.getElem?_eq_getElem hkf, Option.getD_some] at hV1
      obtain ⟨d0, d1, d2⟩ := hFx.at k hkf
      rw [hV1] at d0 d1 d2
      subst hV2
      have hkl : (k : Int) < 6 := by omega
      have hk0 : (0 : Int) ≤ k := by omega
      have hw1 : IntKind.i64.wrap (at' - 1) = (k : Int) := by rw [hk]; exact wraps_i64_40 _ (by omega) (by omega)
      clear hV1 HV hFs hFx
      go_wp2
      go_quiet (fail)
      go_wp2
      go_ret
      exact ⟨rfl, bdrewT hBe _⟩
    · by_cases h2 : 6 < at' ∧ at' ≤ 6 + fs.length
      · obtain ⟨h2a, h2b⟩ := h2
        obtain ⟨k, hk⟩ : ∃ k : Nat, at' - 1 - 6 = (k : Int) := ⟨(at' - 1 - 6).toNat, by omega⟩
        have hkn : k < fs.length := by omega
        have hV := HV.out
        unfold atV at hV
        rw [if_pos ⟨by omega, h2b⟩, show (at' - 1).toNat = 6 + k by omega] at hV
        injection hV with hV1 hV2
        rw [List.getD_eq_getElem?_getD, List.getElem?_append_right (show fixedL.length ≤ 6 + k by show 6 ≤ 6 + k; omega), show 6 + k - fixedL.length = k by show 6 + k - 6 = k; omega, List.getElem?_eq_getElem hkn, Option.getD_some] at hV1
        obtain ⟨gT, oT, rfl⟩ := hFs.some' (by omega)
        obtain ⟨d0, d1, d2⟩ := hFs.at k hkn
        rw [hV1] at d0 d1 d2
        subst hV2
        have hkl : (k : Int) < fs.length := by omega
        have hk0 : (0 : Int) ≤ k := by omega
        have h1c : ¬ at' ≤ 6 := by omega
        have h1d : 1 ≤ at' := by omega
        have hdA : decide (at' ≤ 6) = false := by simpa using h1c
        have hdC : decide (6 < at') = true := by simpa using h2a
        have hdD : decide (at' ≤ 6 + (fs.length : Int)) = true := by simpa using h2b
        have hw1 : IntKind.i64.wrap (at' - 1) = at' - 1 := wraps_i64_40 _ (by omega) (by omega)
        have hw2 : IntKind.i64.wrap (at' - 1 - 6) = (k : Int) := by rw [hk]; exact wraps_i64_40 _ (by omega) (by omega)
        clear hV1 HV hFs hFx h1
        go_wp2
        go_quiet (fail)
        go_wp2
        go_ret
        exact ⟨rfl, bdrewT hBe _⟩
      · have hV := HV.out
        unfold atV at hV
        rw [if_neg (by omega)] at hV
        injection hV with hV1 hV2
        subst hV2
        have h3 : at' < 1 ∨ (6 < at' ∧ 6 + (fs.length : Int) < at') := by omega
        clear hV1 HV hFs hFx h1 h2
        rcases h3 with h3 | ⟨h3, h4⟩
        · have hdB : decide (1 ≤ at') = false := by simp; omega
          have hdC : decide (6 < at') = false := by simp; omega
          go_wp2
          go_ret
          exact ⟨rfl, hBe⟩
        · have hdA : decide (at' ≤ 6) = false := by simp; omega
          have hdB : decide (1 ≤ at') = true := by simp; omega
          have hdC : decide (6 < at') = true := by simp; omega
          have hdD : decide (at' ≤ 6 + (fs.length : Int)) = false := by simp; omega
          go_wp2
          go_ret
          exact ⟨rfl, hBe⟩
end Go.Proofs.Ytafhpcgdlmkbeae
