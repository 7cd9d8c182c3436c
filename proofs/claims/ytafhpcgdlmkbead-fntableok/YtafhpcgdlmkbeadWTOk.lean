import Derived.Test.YtafhpcgdlmkbeadTL1
import Derived.Test.YtafhpcgdlmkbeadTDraw4
import Derived.Deep.RegionHeld3
namespace Go.Proofs.Ytafhpcgdlmkbead
open Go.RowKit
set_option linter.unusedVariables false

theorem tOk_of {fs : List Fd} {max m2 : Int} (h : tOk fs max = true) (h0 : 0 ≤ m2) (h1 : m2 ≤ 64) (h2 : fSum fs ≤ m2) : tOk fs m2 = true := by
  obtain ⟨a1, a2, a3, a4⟩ := tOk_parts h
  unfold tOk
  simp only [Bool.and_eq_true, List.all_eq_true, decide_eq_true_eq]
  exact ⟨fun f hf => ⟨(a1 f hf).1, by rw [(a1 f hf).2]; rfl⟩, ⟨h0, h1⟩, h2⟩
theorem tOk_less {fs : List Fd} {m2 : Int} (h2 : m2 < fSum fs) : tOk fs m2 = false := by
  unfold tOk
  have : decide (fSum fs ≤ m2) = false := by simpa using h2
  rw [this]
  simp

set_option maxRecDepth 100000 in
set_option maxHeartbeats 2000000 in
theorem fnTableOk_walk (a0 : Option Addr) (len0 cap0 : Nat) (z0 : List Int) (a1 : Option Addr) (len1 cap1 : Nat) (z1 : List Int) (w : World) (w0 : Row w a0 len0 cap0 z0) (w1 : Row w a1 len1 cap1 z1) :
    Calls Try.prog 7 #[.slice a0 len0 cap0, .slice a1 len1 cap1] w fun e w' => e = .returned (.bool true) ∧ Below w.heap.size w w' := by
  by_cases c0 : (1048576 : Int) < len0
  · clear w0 w1
    go_enter Try.func7, Try.ntmps7
    go_wp2
    go_ret
    exact ⟨rfl, Below.refl _ _⟩
  by_cases c1 : (1048576 : Int) < len1
  · clear w0 w1
    go_enter Try.func7, Try.ntmps7
    go_wp2
    go_ret
    exact ⟨rfl, Below.refl _ _⟩
  have R0 : Hid (Row w a0 len0 cap0 z0) := w0
  have R1 : Hid (Row w a1 len1 cap1 z1) := w1
  clear w0 w1
  go_enter Try.func7, Try.ntmps7
  go_wp2_with fail
  refine (drawTableOk _ _ _ _ _ R0.out).mono ?_
  rintro e wa ⟨fs, max, a', c', rfl, ⟨hl, hsm, m0, m1, hfs⟩, hba⟩
  have hbA : Below wa.heap.size wa (wa.alloc (.cells #[.slice a' fs.length c', .int .i64 max] 35)) := (Below.refl _ _).alloc (Nat.le_refl _) _
  have hT : (wa.alloc (.cells #[.slice a' fs.length c', .int .i64 max] 35)).heap[wa.heap.size]? = some (.cells #[.slice a' fs.length c', .int .i64 max] 35 (0, 0)) := heap_alloc_last wa _
  have hBa := bt' hba hbA
  have HFA : Hid (Fs (wa.alloc (.cells #[.slice a' fs.length c', .int .i64 max] 35)) a' fs.length c' fs) := hfs.below hbA
  have hoI := fun (mx : Int) (w' : World) (h : Fs w' a' fs.length c' fs) => implTableOk fs a' fs.length c' mx w' h hsm.bd (by omega)
  have hoS := fun (w' : World) (h : Fs w' a' fs.length c' fs) => specTableOk fs a' fs.length c' max w' h hsm.bd (by omega)
  have hoZ := fun (w' : World) (h : Fs w' a' fs.length c' fs) => implTableSize fs a' fs.length c' max w' h hsm.bd (by omega)
  have HSM : Hid (fsSm fs) := hsm
  have hoM := hoI max
  cases ht : tOk fs max with
  | false =>
    rw [ht] at hoM hoS
    clear ht hsm hoI hoZ
    go_wp2_with (first | (go_at_call 24; refine (hoM _ HFA.out).mono ?_; clear hoM; rintro e wb ⟨rfl, hbb⟩; have hTb := blkB hbb hT; have HFb := HFA.out.below hbb; have hBb := bt' hBa hbb; obtain ⟨y0, y1⟩ := row2c hTb) | (go_at_call 21; refine (hoS _ HFb).mono ?_; clear HFA; rintro e wc ⟨rfl, hbc⟩; have hTc := blkB hbc hTb; have HFc := HFb.below hbc; have hBc := bt' hBb hbc; obtain ⟨z0, z1⟩ := row2c hTc; clear HFb) | (go_at_call 21; refine (hoS _ HFc).mono ?_; clear hoS; rintro e wd ⟨rfl, hbd⟩))
    go_ret
    exact ⟨rfl, bt' hBc hbd⟩
  | true =>
    rw [ht] at hoM hoS
    rw [ht, if_pos rfl] at hoZ
    obtain ⟨_, x0, x1, x2⟩ := tOk_parts ht
    have sn := fSum_nonneg fs
    have h64 := hoI 64
    have hY := hoI (fSum fs)
    have hZ := hoI (fSum fs - 1)
    rw [tOk_of ht (by omega) (by omega) (by omega)] at h64
    rw [tOk_of ht (by omega) (by omega) (by omega)] at hY
    rw [tOk_less (by omega)] at hZ
    obtain ⟨m, hm⟩ : ∃ m : Nat, (len1 : Int) % ((fs.length : Int) + 1) = m := ⟨len1 % (fs.length + 1), by rw [← Int.natCast_succ]; exact (Int.natCast_emod len1 (fs.length + 1)).symm⟩
    have hml : m ≤ fs.length := by have h1 := Int.emod_lt_of_pos (len1 : Int) (show 0 < (fs.length : Int) + 1 by omega); rw [hm] at h1; omega
    have hoK := fun (w' : World) (h : Fs w' a' fs.length c' fs) => implTableOk (fs.take m) a' m c' max w' (h.take m hml) (fun f hf => hsm.bd f (List.mem_of_mem_take hf)) (by omega)
    have hsub : fSum (fs.take m) ≤ fSum fs := by
      have h1 := fSum_take_le fs m fs.length hml
      rwa [List.take_length] at h1
    rw [tOk_sub ht (fun f hf => List.mem_of_mem_take hf) hsub] at hoK
    have hle := hfs.le
    have HBX : Hid (∀ wc : World, Below wc.heap.size wc (wc.alloc (.cells #[.slice a' fs.length c', .int .i64 64] 35))) := fun wc => (Below.refl _ _).alloc (Nat.le_refl _) _
    have HBY : Hid (∀ wc : World, Below (wc.alloc (.cells #[.slice a' fs.length c', .int .i64 64] 35)).heap.size (wc.alloc (.cells #[.slice a' fs.length c', .int .i64 64] 35)) ((wc.alloc (.cells #[.slice a' fs.length c', .int .i64 64] 35)).alloc (.cells #[.slice a' fs.length c', .int .i64 max] 35))) := fun wc => (Below.refl _ _).alloc (Nat.le_refl _) _
    have HYR' : Hid (∀ wc : World, ((wc.alloc (.cells #[.slice a' fs.length c', .int .i64 64] 35)).alloc (.cells #[.slice a' fs.length c', .int .i64 max] 35)).heap[wc.heap.size + 1]? = some (.cells #[.slice a' fs.length c', .int .i64 max] 35 (0, 0))) := by
      intro wc
      have h := heap_alloc_last (wc.alloc (.cells #[.slice a' fs.length c', .int .i64 64] 35)) (.cells #[.slice a' fs.length c', .int .i64 max] 35)
      rwa [World.size_alloc] at h
    have hnn : ¬ (fs.length : Int) + 1 = 0 := by omega
    clear ht hsm hoI hsub
    obtain ⟨S, hS⟩ : ∃ S, fSum fs = S := ⟨_, rfl⟩
    rw [hS] at hoZ x2 sn hY hZ
    clear hS
    go_wp2_with (first | (go_at_call 24; refine (hoM _ HFA.out).mono ?_; clear hoM; rintro e wb ⟨rfl, hbb⟩; have hTb := blkB hbb hT; have HFb := HFA.out.below hbb; have hBb := bt' hBa hbb; obtain ⟨y0, y1⟩ := row2c hTb) | (go_at_call 21; refine (hoS _ HFb).mono ?_; clear hoS; rintro e wc ⟨rfl, hbc⟩; have hTc := blkB hbc hTb; have HFc := HFb.below hbc; have hBc := bt' hBb hbc; obtain ⟨z0, z1⟩ := row2c hTc; have hTl := (Array.getElem?_eq_some_iff.1 hTc).1) | (go_at_call 19; refine (hoZ _ ((HFc.below (HBX.out wc)).below (HBY.out wc))).mono ?_; clear hoZ; rintro e wd ⟨rfl, hbd⟩; have hXd := blkB hbd (blkT (heap_alloc_last wc (.cells #[.slice a' fs.length c', .int .i64 64] 35)) (.cells #[.slice a' fs.length c', .int .i64 max] 35)); have hYd := blkB hbd (HYR'.out wc); have hTd := blkB hbd (blkT (blkT hTc (.cells #[.slice a' fs.length c', .int .i64 64] 35)) (.cells #[.slice a' fs.length c', .int .i64 max] 35)); have hY1 := set2b_heap (.int .i64 S) hYd; have hT1 := (Below.heap_setCell wd ⟨wc.heap.size + 1, 1, none⟩ (.int .i64 S) wa.heap.size (show wa.heap.size ≠ wc.heap.size + 1 by omega)).trans hTd; have hX1 := (Below.heap_setCell wd ⟨wc.heap.size + 1, 1, none⟩ (.int .i64 S) wc.heap.size (show wc.heap.size ≠ wc.heap.size + 1 by omega)).trans hXd; have hzd := (Array.getElem?_eq_some_iff.1 hYd).1; obtain ⟨u0, u1⟩ := row2c hYd; have fz := frz3 1 hYd; obtain ⟨b0, b1⟩ := row2c hT1; obtain ⟨d0, d1⟩ := row2c hY1; obtain ⟨g0, g1⟩ := row2c hX1))
    have hBX : Below w.heap.size w ((wc.alloc (.cells #[.slice a' fs.length c', .int .i64 64] 35)).alloc (.cells #[.slice a' fs.length c', .int .i64 max] 35)) := (hBc.alloc hBc.size _).alloc (hBc.alloc hBc.size _).size _
    have hBd : Below w.heap.size w wd := bt' hBX hbd
    have hBs := hBd.setCell (p := ⟨wc.heap.size + 1, 1, none⟩) (show w.heap.size ≤ wc.heap.size + 1 by have := hBc.size; omega) (.int .i64 S)
    have hFd : Fs wd a' fs.length c' fs := ((HFc.below (HBX.out wc)).below (HBY.out wc)).below hbd
    have hFs : Fs (wd.setCell ⟨wc.heap.size + 1, 1, none⟩ (.int .i64 S)) a' fs.length c' fs := by
      refine ⟨hFd.len, hFd.le, hFd.cmax, ?_, hFd.some', hFd.form⟩
      intro g o e j u hu
      have h0 := HFc.cells g o e j u hu
      have h1 : g < wc.heap.size := World.block_lt_of_cell? wc _ h0
      rw [cell_set _ _ _ _ (show g ≠ wc.heap.size + 1 by omega)]
      exact hFd.cells g o e j u hu
    have hZR : Hid (((wd.setCell ⟨wc.heap.size + 1, 1, none⟩ (.int .i64 S)).alloc (.cells #[.slice a' fs.length c', .int .i64 (S - 1)] 35)).heap[wd.heap.size]? = some (.cells #[.slice a' fs.length c', .int .i64 (S - 1)] 35 (0, 0))) := by
      have h := heap_alloc_last (wd.setCell ⟨wc.heap.size + 1, 1, none⟩ (.int .i64 S)) (.cells #[.slice a' fs.length c', .int .i64 (S - 1)] 35)
      rwa [World.size_setCell] at h
    refine wabs (fun W => W.heap[wa.heap.size]? = some (.cells #[.slice a' fs.length c', .int .i64 max] 35 (0, 0)) ∧ W.heap[wc.heap.size]? = some (.cells #[.slice a' fs.length c', .int .i64 64] 35 (0, 0)) ∧ W.heap[wc.heap.size + 1]? = some (.cells #[.slice a' fs.length c', .int .i64 S] 35 (0, 0)) ∧ W.heap[wd.heap.size]? = some (.cells #[.slice a' fs.length c', .int .i64 (S - 1)] 35 (0, 0)) ∧ Fs W a' fs.length c' fs ∧ Below w.heap.size w W) ⟨blkT hT1 _, blkT hX1 _, blkT hY1 _, hZR.out, hFs.below ((Below.refl _ _).alloc (Nat.le_refl _) _), hBs.alloc hBs.size _⟩ ?_
    rintro W ⟨hTW, hXW, hYW, hZW, hFW, hBW⟩
    obtain ⟨v0, v1⟩ := row2c hTW
    obtain ⟨v2, v3⟩ := row2c hXW
    obtain ⟨v4, v5⟩ := row2c hYW
    obtain ⟨v6, v7⟩ := row2c hZW
    have HFW : Hid _ := hFW
    have hwn : IntKind.i64.wrap ((fs.length : Int) + 1) = (fs.length : Int) + 1 := wraps_i64_40 _ (by omega) (by omega)
    have hmc : (m : Int) ≤ c' := by omega
    have hm2 : Int.tmod (len1 : Int) ((fs.length : Int) + 1) = m := by rw [Int.tmod_eq_emod_of_nonneg (by omega)]; exact hm
    have hm3 : IntKind.i64.wrap (m : Int) = m := wraps_i64_40 _ (by omega) (by omega)
    have hmc0 : (0 : Int) ≤ m := by omega
    have hform := hFW.form
    clear hTW hXW hYW hZW hFW hZR hFs hFd hBs hBd hBX hXd hYd hTd hT1 hX1 hY1 u0 u1 fz b0 b1 d0 d1 g0 g1 HFc HBX HBY HYR' z0 z1 y0 y1 hTb hTc hT hfs HFb HFA hbA hba hbb hbc hbd hBa hBb hBc
    have hsl := fun W => HFW.out.upto m (m : Int) rfl hml W
    clear hform
    have hkeepW : ∀ w1 w2 : World, Below w1.heap.size w1 w2 → (w1.cell? ⟨wc.heap.size, 0, none⟩ = some (.slice a' fs.length c') ∧ w1.cell? ⟨wc.heap.size, 1, none⟩ = some (.int .i64 64) ∧ w1.cell? ⟨wc.heap.size + 1, 0, none⟩ = some (.slice a' fs.length c') ∧ w1.cell? ⟨wc.heap.size + 1, 1, none⟩ = some (.int .i64 S) ∧ w1.cell? ⟨wd.heap.size, 0, none⟩ = some (.slice a' fs.length c') ∧ w1.cell? ⟨wd.heap.size, 1, none⟩ = some (.int .i64 (S - 1)) ∧ w1.cell? ⟨wa.heap.size, 0, none⟩ = some (.slice a' fs.length c') ∧ w1.cell? ⟨wa.heap.size, 1, none⟩ = some (.int .i64 max) ∧ Below W.heap.size W w1) → (w2.cell? ⟨wc.heap.size, 0, none⟩ = some (.slice a' fs.length c') ∧ w2.cell? ⟨wc.heap.size, 1, none⟩ = some (.int .i64 64) ∧ w2.cell? ⟨wc.heap.size + 1, 0, none⟩ = some (.slice a' fs.length c') ∧ w2.cell? ⟨wc.heap.size + 1, 1, none⟩ = some (.int .i64 S) ∧ w2.cell? ⟨wd.heap.size, 0, none⟩ = some (.slice a' fs.length c') ∧ w2.cell? ⟨wd.heap.size, 1, none⟩ = some (.int .i64 (S - 1)) ∧ w2.cell? ⟨wa.heap.size, 0, none⟩ = some (.slice a' fs.length c') ∧ w2.cell? ⟨wa.heap.size, 1, none⟩ = some (.int .i64 max) ∧ Below W.heap.size W w2) := by
      rintro w1 w2 hb ⟨h0, h1, h2, h3, h4, h5, h6, h7, hB⟩
      exact ⟨keepc hb h0, keepc hb h1, keepc hb h2, keepc hb h3, keepc hb h4, keepc hb h5, keepc hb h6, keepc hb h7, bt' hB hb⟩
    have hBelW : ∀ w' : World, (w'.cell? ⟨wc.heap.size, 0, none⟩ = some (.slice a' fs.length c') ∧ w'.cell? ⟨wc.heap.size, 1, none⟩ = some (.int .i64 64) ∧ w'.cell? ⟨wc.heap.size + 1, 0, none⟩ = some (.slice a' fs.length c') ∧ w'.cell? ⟨wc.heap.size + 1, 1, none⟩ = some (.int .i64 S) ∧ w'.cell? ⟨wd.heap.size, 0, none⟩ = some (.slice a' fs.length c') ∧ w'.cell? ⟨wd.heap.size, 1, none⟩ = some (.int .i64 (S - 1)) ∧ w'.cell? ⟨wa.heap.size, 0, none⟩ = some (.slice a' fs.length c') ∧ w'.cell? ⟨wa.heap.size, 1, none⟩ = some (.int .i64 max) ∧ Below W.heap.size W w') → Below W.heap.size W w' := fun w' h => h.2.2.2.2.2.2.2.2
    have hmx : Try.prog.follows .mixedOrders = true := by kernel_rfl
    go_region_held3 (fun w' => w'.cell? ⟨wc.heap.size, 0, none⟩ = some (.slice a' fs.length c') ∧ w'.cell? ⟨wc.heap.size, 1, none⟩ = some (.int .i64 64) ∧ w'.cell? ⟨wc.heap.size + 1, 0, none⟩ = some (.slice a' fs.length c') ∧ w'.cell? ⟨wc.heap.size + 1, 1, none⟩ = some (.int .i64 S) ∧ w'.cell? ⟨wd.heap.size, 0, none⟩ = some (.slice a' fs.length c') ∧ w'.cell? ⟨wd.heap.size, 1, none⟩ = some (.int .i64 (S - 1)) ∧ w'.cell? ⟨wa.heap.size, 0, none⟩ = some (.slice a' fs.length c') ∧ w'.cell? ⟨wa.heap.size, 1, none⟩ = some (.int .i64 max) ∧ Below W.heap.size W w') (first | exact ⟨v2, v3, v4, v5, v6, v7, v0, v1, (Below.refl _ _).drew⟩ | exact hkeepW _ _ hbN (by assumption)) ((first | (go_at_call 24; refine (h64 _ (HFW.out.below (hBelW _ (by assumption)))).mono ?_; clear h64; rintro e wN ⟨rfl, hbN⟩) | (go_at_call 24; refine (hY _ (HFW.out.below (hBelW _ (by assumption)))).mono ?_; clear hY; rintro e wN ⟨rfl, hbN⟩) | (go_at_call 24; refine (hZ _ (HFW.out.below (hBelW _ (by assumption)))).mono ?_; clear hZ; rintro e wN ⟨rfl, hbN⟩) | (go_at_call 24; refine (hoK _ (HFW.out.below (hBelW _ (by assumption)))).mono ?_; clear hoK; rintro e wN ⟨rfl, hbN⟩)))
    all_goals
      go_wp2
      go_ret
      first | exact ⟨rfl, bt' hBW (hBelW _ (by assumption))⟩ | exact ⟨rfl, bt' hBW (hBelW _ (hkeepW _ _ hbN (by assumption)))⟩
end Go.Proofs.Ytafhpcgdlmkbead
