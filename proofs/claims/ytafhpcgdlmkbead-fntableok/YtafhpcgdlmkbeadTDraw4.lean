import Derived.Test.YtafhpcgdlmkbeadTDraw3
import Derived.Test.YtafhpcgdlmkbeadTL0
namespace Go.Proofs.Ytafhpcgdlmkbead
open Go.RowKit
set_option linter.unusedVariables false

theorem fsSm_app2 {fs : List Fd} {x y : Fd} (h : fsSm fs) (hx : x.n.size ≤ 20 ∧ x.v.size ≤ 20) (hy : y.n.size ≤ 20 ∧ y.v.size ≤ 20) : fsSm (fs ++ [x, y]) := by
  intro f hf
  rcases List.mem_append.1 hf with hf | hf
  · exact h f hf
  · simp at hf
    rcases hf with rfl | rfl <;> assumption

set_option maxRecDepth 100000 in
set_option maxHeartbeats 2000000 in
theorem drawTableOk (a : Option Addr) (len cap : Nat) (zs : List Int) (w : World) (hr : Row w a len cap zs) :
    Calls Try.prog 23 #[.slice a len cap] w fun e w' => ∃ (fs : List Fd) (max : Int) (a' : Option Addr) (c' : Nat), e = .returned (.agg #[.slice a' fs.length c', .int .i64 max]) ∧ DT w' fs max a' c' ∧ Below w.heap.size w w' := by
  have HR : Hid (Row w a len cap zs) := hr
  clear hr
  have hb0 : Below w.heap.size w (w.alloc (.cells #[.slice none 0 0, .int .i64 0] 35)) := (Below.refl _ _).alloc (Nat.le_refl _) _
  have hR0 : Hid ((w.alloc (.cells #[.slice none 0 0, .int .i64 0] 35)).heap[w.heap.size]? = some (.cells #[.slice none 0 0, .int .i64 0] 35 (0, 0))) := heap_alloc_last w _
  go_enter Try.func23, Try.ntmps23
  go_wp2_with fail
  refine (open_st2 _ _ _ _ _ (HR.out.below hb0)).mono ?_
  rw [World.size_alloc]
  rintro e w1 ⟨rfl, s1, hb1, hz1⟩
  have hR1 := (hb1.block w.heap.size (by simp)).trans hR0.out
  have hB1 : Below w.heap.size w w1 := hb0.trans (hb1.mono (by simp))
  clear hR0 hb0 hb1
  go_wp2_with fail
  refine (l71Table_any (w.heap.size + 1) 0 _ _ s1 (by decide)).mono ?_
  rintro e w2 ⟨fs, max, a', c', rfl, hl, hsm, m0, m1, hown, s2⟩
  have hR2 := s2.blk hR1 (by omega)
  have hB2 := s2.bel hB1 (by omega) hB1.size
  have HSM : Hid (fsSm fs) := hsm
  clear s1 hR1 hB1 hsm
  go_wp2_with fail
  have s2' := s2.alloc (.cells #[.slice a' fs.length c', .int .i64 max] 35)
  have hT2 : (w2.alloc (.cells #[.slice a' fs.length c', .int .i64 max] 35)).heap[w2.heap.size]? = some (.cells #[.slice a' fs.length c', .int .i64 max] 35 (0, 0)) := heap_alloc_last w2 _
  have hB2' : Below w.heap.size w (w2.alloc (.cells #[.slice a' fs.length c', .int .i64 max] 35)) := hB2.alloc hB2.size _
  have hO2' := hown.alloc (.cells #[.slice a' fs.length c', .int .i64 max] 35)
  have hz2 := s2.kept.size
  have hR2' := blkT hR2 (.cells #[.slice a' fs.length c', .int .i64 max] 35)
  obtain ⟨T, hT⟩ : ∃ T, w2.heap.size = T := ⟨_, rfl⟩
  rw [hT] at hT2 hz2 ⊢
  have hT1 : T ≠ w.heap.size := by omega
  have hT3 : w.heap.size + 1 < T := by omega
  clear hT hown hR2 hB2 s2
  refine (pick_st2 (w.heap.size + 1) 1000 5 _ _ s2'.self (by omega) (by decide)).mono ?_
  rintro e w3 ⟨v3, rfl, v30, v31, k3, _⟩
  have hT8 := k3.blk hT2 (by omega)
  have hR8 := k3.blk hR2' (by omega)
  have hB8 := k3.bel hB2' (by omega) hB2'.size
  have hO8 := own_st2 hO2' k3 (by omega)
  have s8 : St2 w1 w3 (w.heap.size + 1) 1001 := s2'.step k3
  clear k3 hT2 hR2' hB2' hO2' s2'
  by_cases e0 : (v3 == 0) = true
  · have hmx : Try.prog.follows .mixedOrders = true := by kernel_rfl
    have sA : St2 w3.drew w3.drew (w.heap.size + 1) 1001 := (s8.grow ((Below.refl _ _).drew)).self
    have hTA : w3.drew.heap[T]? = some (.cells #[.slice a' fs.length c', .int .i64 max] 35 (0, 0)) := hT8
    have hRA : w3.drew.heap[w.heap.size]? = some (.cells #[.slice none 0 0, .int .i64 0] 35 (0, 0)) := hR8
    have hOA : w3.drew.ownsRow w1.heap.size 29 3 (.slice a' fs.length c') fs.length (cellsF fs) := hO8
    have hBA : Below w.heap.size w w3.drew := hB8.drew
    have qA := cell_of_row _ _ 0 _ _ _ hTA
    have hw1 : w.heap.size + 1 < w1.heap.size := by omega
    clear s8 hT8 hR8 hO8 hB8
    go_wp2
    go_region_law ((first | (go_simp; refine (l71Field_v (w.heap.size + 1) 1071 _ _ sB.self (by omega)).mono ?_; rintro e wC ⟨fC, rfl, hCn, hCv, kC⟩; have sC := sB.step kC; have hTC := kC.blk hTB (by omega); have hRC := kC.blk hRB (by omega); have hOC := own_st2 hOB kC (by omega); have qC := cell_of_row _ _ 0 _ _ _ hTC; have hBC := kC.bel hBB (by omega) hBB.size; have qE : (wC.alloc (.cells #[.string fB.n, .string fB.v, .bool fB.q, .string fC.n, .string fC.v, .bool fC.q] 29)).cell? ⟨T, 0, none⟩ = some (.slice a' fs.length c') := cell_of_row _ _ 0 _ _ _ (blkT hTC _); clear sB) | (go_simp; refine (l71Field_v (w.heap.size + 1) 1001 _ _ sA (by omega)).mono ?_; rintro e wB ⟨fB, rfl, hBn, hBv, kB⟩; have sB : St2 w3.drew wB (w.heap.size + 1) 1071 := kB; have hTB := kB.blk hTA (by omega); have hRB := kB.blk hRA (by omega); have hOB := own_st2 hOA kB (by omega); have qB := cell_of_row _ _ 0 _ _ _ hTB; have hBB := kB.bel hBA (by omega) hBA.size; clear sA) | (have hNs := own_new wC wC.heap.size 29 3 2 (cellsF [fB, fC]) (Nat.le_refl _) (by decide) (by rfl); have hFsN := own_Fs hNs; have hOE := hOC.alloc (.cells (cellsF [fB, fC]).toArray 29); have hTE := blkT hTC (.cells (cellsF [fB, fC]).toArray 29); have hRE := blkT hRC (.cells (cellsF [fB, fC]).toArray 29); have hBE : Below w.heap.size w (wC.alloc (.cells (cellsF [fB, fC]).toArray 29)) := hBC.alloc hBC.size _; have hbs : w1.heap.size ≤ (wC.alloc (.cells (cellsF [fB, fC]).toArray 29)).heap.size := (by rw [World.size_alloc]; have := (Array.getElem?_eq_some_iff.1 hTC).1; omega); have hk3 : fs.length + 2 ≤ 3000000 := (by omega); refine step_appFs (wC.alloc (.cells (cellsF [fB, fC]).toArray 29)) (by rfl) (.tmp 13) (.tmp 18) (by rfl) w1.heap.size (.slice a' fs.length c') fs.length (cellsF fs) (by rfl) hOE (some ⟨wC.heap.size, 0, none⟩) 2 2 [fB, fC] (by rfl) hFsN hk3 hbs ?_; intro v9 w9 hown9 hgrow9; obtain ⟨a9, c9, rfl⟩ := own_formT hown9; have hT9 := (hgrow9.block _ (Array.getElem?_eq_some_iff.1 hTE).1 (not_rowT hTE (by decide) hOE)).trans hTE; have hR9 := (hgrow9.block _ (Array.getElem?_eq_some_iff.1 hRE).1 (not_rowT hRE (by decide) hOE)).trans hRE; have z9 := cell_of_row _ _ 0 _ _ _ hT9; have f9 := frz3 0 hT9)))
    all_goals
      have hB9 : Below w.heap.size w w9 := hBE.grown hgrow9 hBE.size (fun q hq => by have := (hOE.lt q hq).1; omega)
      have hT10 := set2a_heap (.slice a9 (fs.length + 2) c9) hT9
      have hR10 := (Below.heap_setCell w9 ⟨T, 0, none⟩ (.slice a9 (fs.length + 2) c9) w.heap.size (fun e => hT1 e.symm)).trans hR9
      have hO10 := own_setT hown9 ⟨T, 0, none⟩ (.slice a9 (fs.length + 2) c9) (not_rowT hT9 (by decide) hown9)
      have hB10 := hB9.setCell (p := ⟨T, 0, none⟩) (show w.heap.size ≤ T by omega) (.slice a9 (fs.length + 2) c9)
      have t0 := cell_of_row _ _ 0 _ _ _ hT10
      have t1 := cell_of_row _ _ 1 _ _ _ hT10
      simp at t0 t1
      have HSM3 : Hid (fsSm (fs ++ [fB, fC])) := fsSm_app2 HSM.out ⟨hBn, hBv⟩ ⟨hCn, hCv⟩
      clear hBn hBv hCn hCv sC hgrow9 hown9 hOE hFsN hNs hTE hRE hT9 hR9 z9 f9 hB9 hBE hBC hBB hBA
      go_wp2_with (refine wpList_store_row rfl 35 _ _ rfl w.heap.size #[.slice a9 (fs.length + 2) c9, .int .i64 max] rfl rfl 35 _ hR10 infoT2 rfl (by simp [Value.oneCell']) ?_)
      have hl3 : (fs ++ [fB, fC]).length = fs.length + 2 := by simp
      exact bodyPost_ret (results_cell_row rfl _ _ w.heap.size 35 #[.slice a9 (fs.length + 2) c9, .int .i64 max] (0, 0) _ rfl (setRow_heap _ _ _ _ _ _ hR10) Try.underlying35 rfl infoT2) rfl ⟨fs ++ [fB, fC], max, a9, c9, by rw [hl3], ⟨by omega, HSM3.out, by omega, by omega, own_Fs (by rw [hl3, cellsF_append]; exact own_setRowT _ hO10 hR10 (by decide))⟩, bel_setRow _ hB10 hB10.size (Nat.le_refl _)⟩
  · have e0' : (v3 == 0) = false := by simpa using e0
    clear e0
    have t0 := cell_of_row _ _ 0 _ _ _ hT8
    have t1 := cell_of_row _ _ 1 _ _ _ hT8
    simp at t0 t1
    go_wp2_with (refine wpList_store_row rfl 35 _ _ rfl w.heap.size #[.slice a' fs.length c', .int .i64 max] rfl rfl 35 _ hR8 infoT2 rfl (by simp [Value.oneCell']) ?_)
    exact bodyPost_ret (results_cell_row rfl _ _ w.heap.size 35 #[.slice a' fs.length c', .int .i64 max] (0, 0) _ rfl (setRow_heap _ _ _ _ _ _ hR8) Try.underlying35 rfl infoT2) rfl ⟨fs, max, a', c', rfl, ⟨by omega, HSM.out, by omega, by omega, own_Fs (own_setRowT _ hO8 hR8 (by decide))⟩, bel_setRow _ hB8 hB8.size (Nat.le_refl _)⟩

end Go.Proofs.Ytafhpcgdlmkbead
