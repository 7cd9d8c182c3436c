import Derived.Test.YtafhpcgdlmkbeaeTDraw3
import Derived.Test.YtafhpcgdlmkbeaeTL0
namespace Go.Proofs.Ytafhpcgdlmkbeae
open Go.RowKit
set_option linter.unusedVariables false

theorem fsSm_app2 {fs : List Fd} {x y : Fd} (h : fsSm fs) (hx : x.n.size ≤ 20 ∧ x.v.size ≤ 20) (hy : y.n.size ≤ 20 ∧ y.v.size ≤ 20) : fsSm (fs ++ [x, y]) := by
  intro f hf
  rcases List.mem_append.1 hf with hf | hf
  · exact h f hf
  · simp at hf
    rcases hf with rfl | rfl <;> assumption

set_option maxRecDepth 100000 in
set_option maxHeartbeats 2000000 in
theorem drawTableAt (a : Option Addr) (len cap : Nat) (zs : List Int) (w : World) (hr : Row w a len cap zs) :
    Calls Try.prog 18 #[.slice a len cap] w fun e w' => ∃ (fs : List Fd) (max : Int) (a' : Option Addr) (c' : Nat) (at' : Int), e = .returned (.tuple #[.agg #[.slice a' fs.length c', .int .i64 max], .int .i64 at']) ∧ DT w' fs max a' c' ∧ 0 ≤ at' ∧ at' ≤ 40 ∧ Below w.heap.size w w' := by
  have HR : Hid (Row w a len cap zs) := hr
  clear hr
  have hb0 : Below w.heap.size w (w.alloc (.cells #[.slice none 0 0, .int .i64 0] 25)) := (Below.refl _ _).alloc (Nat.le_refl _) _
  have hR0 : Hid ((w.alloc (.cells #[.slice none 0 0, .int .i64 0] 25)).heap[w.heap.size]? = some (.cells #[.slice none 0 0, .int .i64 0] 25 (0, 0))) := heap_alloc_last w _
  go_enter Try.func18, Try.ntmps18
  go_wp2_with fail
  refine (open_st2 _ _ _ _ _ (HR.out.below hb0)).mono ?_
  rw [World.size_alloc]
  rintro e w1 ⟨rfl, s1, hb1, hz1⟩
  have hR1 := (hb1.block w.heap.size (by simp)).trans hR0.out
  have hB1 : Below w.heap.size w w1 := hb0.trans (hb1.mono (by simp))
  clear hR0 hb0 hb1
  go_wp2_with fail
  refine (l71Table_any (w.heap.size + 1) 0 _ _ s1 (by decide)).mono ?_
  rintro e w2 ⟨fs, max, a', c', rfl, hl, hsm, m0, m1, hown, s2⟩
  have hR2 := s2.blk hR1 (by omega)
  have hB2 := s2.bel hB1 (by omega) hB1.size
  have HSM : Hid (fsSm fs) := hsm
  clear s1 hR1 hB1 hsm
  go_wp2
  have hz2 := s2.kept.size
  have hT2 : (w2.alloc (.cells #[.slice a' fs.length c', .int .i64 max] 25)).heap[w2.heap.size]? = some (.cells #[.slice a' fs.length c', .int .i64 max] 25 (0, 0)) := heap_alloc_last w2 _
  have hR2' := blkT hR2 (.cells #[.slice a' fs.length c', .int .i64 max] 25)
  obtain ⟨T, hT⟩ : ∃ T, w2.heap.size = T := ⟨_, rfl⟩
  rw [hT] at hT2 hz2 ⊢
  have hT1 : T ≠ w.heap.size := by omega
  have hT3 : w.heap.size + 1 < T := by omega
  refine wabs (fun W => W.heap[T]? = some (.cells #[.slice a' fs.length c', .int .i64 max] 25 (0, 0)) ∧ W.heap[w.heap.size]? = some (.cells #[.slice none 0 0, .int .i64 0] 25 (0, 0)) ∧ W.ownsRow w1.heap.size 35 3 (.slice a' fs.length c') fs.length (cellsF fs) ∧ Below w.heap.size w W ∧ St2 w1 W (w.heap.size + 1) 1000) ⟨hT2, hR2', hown.alloc _, hB2.alloc hB2.size _, s2.alloc _⟩ ?_
  rintro W ⟨hTW, hRW, hOW, hBW, sW⟩
  have hmx : Try.prog.follows .mixedOrders = true := by kernel_rfl
  have sA : St2 W.drew W.drew (w.heap.size + 1) 1000 := (sW.grow ((Below.refl _ _).drew)).self
  obtain ⟨p0, p1⟩ := row2c hTW
  have hbl : Below w.heap.size w W.drew := hBW.drew
  have hOd : W.drew.ownsRow w1.heap.size 35 3 (.slice a' fs.length c') fs.length (cellsF fs) := hOW
  have hTd : W.drew.heap[T]? = some (.cells #[.slice a' fs.length c', .int .i64 max] 25 (0, 0)) := hTW
  have hRd : W.drew.heap[w.heap.size]? = some (.cells #[.slice none 0 0, .int .i64 0] 25 (0, 0)) := hRW
  have hwr : IntKind.i64.wrap (8 + (fs.length : Int)) = 8 + (fs.length : Int) := wraps_i64_40 _ (by omega) (by omega)
  clear hT hown hR2 hB2 s2 hT2 hR2' hTW hRW hOW hBW sW
  go_region_held3 (fun w' => w'.cell? ⟨T, 0, none⟩ = some (.slice a' fs.length c') ∧ w'.cell? ⟨T, 1, none⟩ = some (.int .i64 max)) (first | exact ⟨p0, p1⟩ | exact ⟨q0, q1⟩ | exact ⟨(cell_set _ _ _ _ hT1).trans ((cell_set _ _ _ _ hT1).trans q0), (cell_set _ _ _ _ hT1).trans ((cell_set _ _ _ _ hT1).trans q1)⟩) ((go_at_call 32; refine (pick_st2 (w.heap.size + 1) 1000 (8 + (fs.length : Int)) _ _ sA (by omega) (by omega)).mono ?_; clear sA; rintro e wN ⟨vN, rfl, vN0, vN1, kN, _⟩; have hTN := kN.blk hTd (by omega); have hRN := kN.blk hRd (by omega); obtain ⟨q0, q1⟩ := row2c hTN; obtain ⟨r0, r1⟩ := row2c hRN; have f0 := frz3 0 hRN; have f1 := frz3 1 hRN))
  all_goals
    have hON := own_st2 hOd kN (by omega)
    have hBN := kN.bel hbl (by omega) hbl.size
    have hne := not_rowT hRN (by decide) hON
    go_wp2
    exact bodyPost_ret (results_cell_tmp rfl _ _ w.heap.size #[.slice a' fs.length c', .int .i64 max] rfl (load_tab (set2_heap _ _ hRN))) rfl ⟨fs, max, a', c', vN, rfl, ⟨by omega, HSM.out, by omega, by omega, own_Fs (own_setT (own_setT hON _ _ hne) _ _ hne)⟩, by omega, by omega, (hBN.setCell (p := ⟨w.heap.size, 0, none⟩) (Nat.le_refl _) _).setCell (p := ⟨w.heap.size, 1, none⟩) (Nat.le_refl _) _⟩

end Go.Proofs.Ytafhpcgdlmkbeae
