import Derived.Test.YtafhpcgdlmkbeadTL0
import Derived.Test.YtafhpcgdlmkbeadTI1
import Derived.Test.YtafhpcgdlmkbeadTDraw3
import Derived.Deep.RegionHeld3
namespace Go.Proofs.Ytafhpcgdlmkbead
open Go.RowKit
set_option linter.unusedVariables false

theorem fOk_parts {f : Fd} (h : fOk f = true) : wOk (bytesL f.n) = true ∧ f.n.toList.isEmpty = false ∧ wOk (bytesL f.v) = true := by
  unfold fOk at h
  rw [Bool.and_eq_true, Bool.and_eq_true] at h
  exact ⟨h.1.1, by simpa using h.1.2, h.2⟩

set_option maxRecDepth 100000 in
set_option maxHeartbeats 1000000 in
theorem fnFieldForm_walk (a0 : Option Addr) (len0 cap0 : Nat) (z0 : List Int) (a1 : Option Addr) (len1 cap1 : Nat) (z1 : List Int) (w : World) (w0 : Row w a0 len0 cap0 z0) (w1 : Row w a1 len1 cap1 z1) :
    Calls Try.prog 5 #[.slice a0 len0 cap0, .slice a1 len1 cap1] w fun e w' => e = .returned (.bool true) ∧ Below w.heap.size w w' := by
  by_cases c0 : (1048576 : Int) < len0
  · clear w0 w1
    go_enter Try.func5, Try.ntmps5
    go_wp2
    go_ret
    exact ⟨rfl, Below.refl _ _⟩
  by_cases c1 : (1048576 : Int) < len1
  · clear w0 w1
    go_enter Try.func5, Try.ntmps5
    go_wp2
    go_ret
    exact ⟨rfl, Below.refl _ _⟩
  have R0 : Hid (Row w a0 len0 cap0 z0) := w0
  have R1 : Hid (Row w a1 len1 cap1 z1) := w1
  clear w0 w1
  go_enter Try.func5, Try.ntmps5
  go_wp2_with fail
  refine (drawFieldOk _ _ _ _ _ R0.out).mono ?_
  rintro e wa ⟨f, rfl, hfn, hfv, hba⟩
  have hok := fun w => implFieldOk f w (by omega) (by omega)
  have hsp := fun w => specFieldOk f w (by omega) (by omega)
  unfold Fd.val at hok hsp ⊢
  have hF : (wa.alloc (.cells #[.string f.n, .string f.v, .bool f.q] 29)).heap[wa.heap.size]? = some (.cells #[.string f.n, .string f.v, .bool f.q] 29 (0, 0)) := heap_alloc_last wa _
  have hBa : Below w.heap.size w (wa.alloc (.cells #[.string f.n, .string f.v, .bool f.q] 29)) := hba.alloc hba.size _
  cases hfk : fOk f with
  | false =>
    rw [hfk] at hok hsp
    clear hfk
    go_wp2_with (first | (go_at_call 15; refine (hok _).mono ?_; clear hok; rintro e wb ⟨rfl, hbb⟩; have hFb := blkB hbb hF; have y0 := cell_of_row _ _ 0 _ _ _ hFb; have y1 := cell_of_row _ _ 1 _ _ _ hFb; have y2 := cell_of_row _ _ 2 _ _ _ hFb; have hB := bt' hBa hbb) | (go_at_call 16; refine (hsp _).mono ?_; rintro e wN ⟨rfl, hbN⟩; have hFc := blkB hbN (by assumption); have z0 := cell_of_row _ _ 0 _ _ _ hFc; have z1 := cell_of_row _ _ 1 _ _ _ hFc; have z2 := cell_of_row _ _ 2 _ _ _ hFc; have hBN := bt' (by assumption) hbN))
    go_ret
    exact ⟨rfl, by assumption⟩
  | true =>
    rw [hfk] at hok hsp
    obtain ⟨hn1, hn2, hn3⟩ := fOk_parts hfk
    clear hfk
    go_wp2_with (first | (go_at_call 15; refine (hok _).mono ?_; clear hok; rintro e wb ⟨rfl, hbb⟩; have hFb := blkB hbb hF; have y0 := cell_of_row _ _ 0 _ _ _ hFb; have y1 := cell_of_row _ _ 1 _ _ _ hFb; have y2 := cell_of_row _ _ 2 _ _ _ hFb; have hBb := bt' hBa hbb) | (go_at_call 16; refine (hsp _).mono ?_; clear hsp; rintro e wc ⟨rfl, hbc⟩; have hFc := blkB hbc hFb; have z0 := cell_of_row _ _ 0 _ _ _ hFc; have z1 := cell_of_row _ _ 1 _ _ _ hFc; have z2 := cell_of_row _ _ 2 _ _ _ hFc; have hBc := bt' hBb hbc))
    have hXc : (wc.alloc (.cells #[.string f.n, .string f.v, .bool f.q] 29)).heap[wc.heap.size]? = some (.cells #[.string f.n, .string f.v, .bool f.q] 29 (0, 0)) := heap_alloc_last wc _
    have hBx : Below w.heap.size w (wc.alloc (.cells #[.string f.n, .string f.v, .bool f.q] 29)) := hBc.alloc hBc.size _
    have hFX : wa.heap.size < wc.heap.size := (Array.getElem?_eq_some_iff.1 hFc).1
    have hFx := blkT hFc (.cells #[.string f.n, .string f.v, .bool f.q] 29)
    obtain ⟨X, hX⟩ : ∃ X, wc.heap.size = X := ⟨_, rfl⟩
    rw [hX] at hXc hFX ⊢
    clear hFc hFb hF z0 z1 z2 y0 y1 y2
    refine (drawWordWrite _ _ _ _ _ (R1.out.below hBx)).mono ?_
    rintro e wd ⟨t, rfl, ht, hbd⟩
    have hXd := blkB hbd hXc
    have hFd := blkB hbd hFx
    have hBd := bt' hBx hbd
    have hXl : X < wd.heap.size := (Array.getElem?_eq_some_iff.1 hXd).1
    have hFl : wa.heap.size < wd.heap.size := (Array.getElem?_eq_some_iff.1 hFd).1
    have q1 := frz3 1 hXd
    have c1' := cell_of_row _ _ 1 _ _ _ hXd
    have hXe : (wd.setCell ⟨X, 1, none⟩ (.string t)).heap[X]? = some (.cells #[.string f.n, .string t, .bool f.q] 29 (0, 0)) := set3_heap 1 (.string t) hXd
    have hFe : (wd.setCell ⟨X, 1, none⟩ (.string t)).heap[wa.heap.size]? = some (.cells #[.string f.n, .string f.v, .bool f.q] 29 (0, 0)) := (Below.heap_setCell wd ⟨X, 1, none⟩ (.string t) wa.heap.size (by show wa.heap.size ≠ X; omega)).trans hFd
    have q2 := frz3 2 hXe
    have c2' := cell_of_row _ _ 2 _ _ _ hXe
    have f2' := cell_of_row _ _ 2 _ _ _ hFe
    have hXf : ((wd.setCell ⟨X, 1, none⟩ (.string t)).setCell ⟨X, 2, none⟩ (.bool (!f.q))).heap[X]? = some (.cells #[.string f.n, .string t, .bool (!f.q)] 29 (0, 0)) := set3_heap 2 (.bool (!f.q)) hXe
    have hFf : ((wd.setCell ⟨X, 1, none⟩ (.string t)).setCell ⟨X, 2, none⟩ (.bool (!f.q))).heap[wa.heap.size]? = some (.cells #[.string f.n, .string f.v, .bool f.q] 29 (0, 0)) := (Below.heap_setCell _ ⟨X, 2, none⟩ (.bool (!f.q)) wa.heap.size (by show wa.heap.size ≠ X; omega)).trans hFe
    have hXw : w.heap.size ≤ X := by rw [← hX]; exact hBc.size
    have hBf : Below w.heap.size w ((wd.setCell ⟨X, 1, none⟩ (.string t)).setCell ⟨X, 2, none⟩ (.bool (!f.q))) := (hBd.setCell (p := ⟨X, 1, none⟩) hXw (.string t)).setCell (p := ⟨X, 2, none⟩) hXw (.bool (!f.q))
    have g0 := cell_of_row _ _ 0 _ _ _ hFf
    have g1 := cell_of_row _ _ 1 _ _ _ hFf
    have g2 := cell_of_row _ _ 2 _ _ _ hFf
    simp at c1' c2' f2' g0 g1 g2
    clear hX
    go_wp2
    have hY : Hid ((((wd.setCell ⟨X, 1, none⟩ (.string t)).setCell ⟨X, 2, none⟩ (.bool (!f.q))).alloc (.cells #[.string ⟨#[]⟩, .string f.v, .bool f.q] 29)).heap[wd.heap.size]? = some (.cells #[.string ⟨#[]⟩, .string f.v, .bool f.q] 29 (0, 0))) := by
      have h := heap_alloc_last ((wd.setCell ⟨X, 1, none⟩ (.string t)).setCell ⟨X, 2, none⟩ (.bool (!f.q))) (.cells #[.string ⟨#[]⟩, .string f.v, .bool f.q] 29)
      rwa [World.size_setCell, World.size_setCell] at h
    refine wabs (fun W => W.heap[wa.heap.size]? = some (.cells #[.string f.n, .string f.v, .bool f.q] 29 (0, 0)) ∧ W.heap[X]? = some (.cells #[.string f.n, .string t, .bool (!f.q)] 29 (0, 0)) ∧ W.heap[wd.heap.size]? = some (.cells #[.string ⟨#[]⟩, .string f.v, .bool f.q] 29 (0, 0)) ∧ Below w.heap.size w W) ⟨blkT hFf _, blkT hXf _, hY.out, hBf.alloc hBf.size _⟩ ?_
    rintro W ⟨hF, hXX, hYY, hB⟩
    clear hY hBf hFf hXf hFe hXe hXd hFd hBd q1 q2 c1' c2' f2' g0 g1 g2 hFx hBx hXc hbd hbc hbb hba hBa hBb hBc
    obtain ⟨a0', a1', a2'⟩ := row3c hF
    obtain ⟨b0', b1', b2'⟩ := row3c hXX
    obtain ⟨d0', d1', d2'⟩ := row3c hYY
    have k1 := fun w => implOk f.n w (by unfold maxLen; omega)
    rw [hn1] at k1
    have k2 := fun w => implFieldOk ⟨f.n, t, !f.q⟩ w (show f.n.size ≤ 1048576 by omega) (show t.size ≤ 1048576 by omega)
    have k3 := fun w => implOk t w (by unfold maxLen; omega)
    have k4 := fun w => implFieldOk ⟨⟨#[]⟩, f.v, f.q⟩ w (show 0 ≤ 1048576 by decide) (show f.v.size ≤ 1048576 by omega)
    have e2 : fOk ⟨f.n, t, !f.q⟩ = wOk (bytesL t) := by unfold fOk; simp only [hn1, hn2]; simp
    have e4 : fOk ⟨⟨#[]⟩, f.v, f.q⟩ = false := by unfold fOk; simp
    rw [e2] at k2
    rw [e4] at k4
    obtain ⟨r, hr⟩ : ∃ r, wOk (bytesL t) = r := ⟨_, rfl⟩
    rw [hr] at k2 k3
    unfold Fd.val at k2 k4
    clear e2 e4 hr hn1 hn3 R0 R1 hF hXX hYY
    have hkeep : ∀ w1 w2 : World, Below w1.heap.size w1 w2 → (w1.cell? ⟨wa.heap.size, 0, none⟩ = some (.string f.n) ∧ w1.cell? ⟨X, 0, none⟩ = some (.string f.n) ∧ w1.cell? ⟨X, 1, none⟩ = some (.string t) ∧ w1.cell? ⟨X, 2, none⟩ = some (.bool (!f.q)) ∧ w1.cell? ⟨wd.heap.size, 0, none⟩ = some (.string ⟨#[]⟩) ∧ w1.cell? ⟨wd.heap.size, 1, none⟩ = some (.string f.v) ∧ w1.cell? ⟨wd.heap.size, 2, none⟩ = some (.bool f.q) ∧ Below w.heap.size w w1) → (w2.cell? ⟨wa.heap.size, 0, none⟩ = some (.string f.n) ∧ w2.cell? ⟨X, 0, none⟩ = some (.string f.n) ∧ w2.cell? ⟨X, 1, none⟩ = some (.string t) ∧ w2.cell? ⟨X, 2, none⟩ = some (.bool (!f.q)) ∧ w2.cell? ⟨wd.heap.size, 0, none⟩ = some (.string ⟨#[]⟩) ∧ w2.cell? ⟨wd.heap.size, 1, none⟩ = some (.string f.v) ∧ w2.cell? ⟨wd.heap.size, 2, none⟩ = some (.bool f.q) ∧ Below w.heap.size w w2) := by
      rintro w1 w2 hb ⟨h0, h1, h2, h3, h4, h5, h6, hB⟩
      exact ⟨keepc hb h0, keepc hb h1, keepc hb h2, keepc hb h3, keepc hb h4, keepc hb h5, keepc hb h6, bt' hB hb⟩
    have hBel : ∀ w' : World, (w'.cell? ⟨wa.heap.size, 0, none⟩ = some (.string f.n) ∧ w'.cell? ⟨X, 0, none⟩ = some (.string f.n) ∧ w'.cell? ⟨X, 1, none⟩ = some (.string t) ∧ w'.cell? ⟨X, 2, none⟩ = some (.bool (!f.q)) ∧ w'.cell? ⟨wd.heap.size, 0, none⟩ = some (.string ⟨#[]⟩) ∧ w'.cell? ⟨wd.heap.size, 1, none⟩ = some (.string f.v) ∧ w'.cell? ⟨wd.heap.size, 2, none⟩ = some (.bool f.q) ∧ Below w.heap.size w w') → Below w.heap.size w w' := fun w' h => h.2.2.2.2.2.2.2
    have hmx : Try.prog.follows .mixedOrders = true := by kernel_rfl
    go_region_held3 (fun w' => w'.cell? ⟨wa.heap.size, 0, none⟩ = some (.string f.n) ∧ w'.cell? ⟨X, 0, none⟩ = some (.string f.n) ∧ w'.cell? ⟨X, 1, none⟩ = some (.string t) ∧ w'.cell? ⟨X, 2, none⟩ = some (.bool (!f.q)) ∧ w'.cell? ⟨wd.heap.size, 0, none⟩ = some (.string ⟨#[]⟩) ∧ w'.cell? ⟨wd.heap.size, 1, none⟩ = some (.string f.v) ∧ w'.cell? ⟨wd.heap.size, 2, none⟩ = some (.bool f.q) ∧ Below w.heap.size w w') (first | exact ⟨a0', b0', b1', b2', d0', d1', d2', hB.drew⟩ | exact hkeep _ _ hbN (by assumption)) ((first | (go_at_call 17; refine (k1 _).mono ?_; clear k1; rintro e wN ⟨rfl, hbN⟩) | (go_at_call 15; refine (k2 _).mono ?_; clear k2; rintro e wN ⟨rfl, hbN⟩) | (go_at_call 17; refine (k3 _).mono ?_; clear k3; rintro e wN ⟨rfl, hbN⟩) | (go_at_call 15; refine (k4 _).mono ?_; clear k4; rintro e wN ⟨rfl, hbN⟩)))
    all_goals
      go_wp2
      go_ret
      first | exact ⟨ret_bool' (by simp), hBel _ (by assumption)⟩ | exact ⟨ret_bool' (by simp), hBel _ (hkeep _ _ hbN (by assumption))⟩
end Go.Proofs.Ytafhpcgdlmkbead
