import Derived.Test.YtbhoafiolalgaaaGreatBR
import Derived.Deep.RegionLaw
namespace Go.Proofs.YtbhoafiolalgaaaGreat
open Go.RowKit
set_option linter.unusedVariables false

theorem own_st2 {w w' : World} {b N base n : Nat} {e : TypeId} {size : Nat} {v : Value} {xs : List Value} (h : w.ownsRow base e size v n xs) (k : St2 w w' b N) (hb : b < base) : w'.ownsRow base e size v n xs := by
  refine h.kept k.kept (.inr fun e' => ?_)
  have := (h.lt b e').1
  omega
theorem set2b_heap {W : World} {B : Nat} {a b : Value} {t : TypeId} (y : Value) (h : W.heap[B]? = some (.cells #[a, b] t (0, 0))) : (W.setCell ⟨B, 1, none⟩ y).heap[B]? = some (.cells #[a, y] t (0, 0)) := by
  obtain ⟨hlt, hk⟩ := Array.getElem?_eq_some_iff.1 h
  show (W.heap.modify B _)[B]? = _
  rw [Array.getElem?_eq_getElem (by rw [Array.size_modify]; exact hlt), Array.getElem_modify_self, hk]
  rfl
theorem set2a_heap {W : World} {B : Nat} {a b : Value} {t : TypeId} (y : Value) (h : W.heap[B]? = some (.cells #[a, b] t (0, 0))) : (W.setCell ⟨B, 0, none⟩ y).heap[B]? = some (.cells #[y, b] t (0, 0)) := by
  obtain ⟨hlt, hk⟩ := Array.getElem?_eq_some_iff.1 h
  show (W.heap.modify B _)[B]? = _
  rw [Array.getElem?_eq_getElem (by rw [Array.size_modify]; exact hlt), Array.getElem_modify_self, hk]
  rfl
theorem St2.grownBy {w0 w w' : World} {b N : Nat} {row : Option Nat} (h : St2 w0 w b N) (hg : w.grownBy w' row) (hr : ∀ q, row = some q → w0.heap.size ≤ q ∧ b < q) : St2 w0 w' b N := by
  refine ⟨?_, ⟨hg.os.trans h.kept.os, hg.tape.trans h.kept.tape, hg.output.trans h.kept.output, Nat.le_trans h.kept.size hg.size, fun k hk hne => (hg.block k (Nat.lt_of_lt_of_le hk h.kept.size) (fun e => by have := (hr k e.symm).1; omega)).trans (h.kept.block k hk hne)⟩, Nat.lt_of_lt_of_le h.lt hg.size⟩
  exact h.dr.kept ((Below.refl (b + 1) w).grown hg (by have := h.lt; omega) (fun k e => (hr k e).2)) (Nat.lt_succ_self b)
/-- Fields that were drawn. -/
def fsSm (fs : List Fd) : Prop := ∀ f ∈ fs, f.n.size ≤ 20 ∧ f.v.size ≤ 20
theorem fsSm.bd {fs : List Fd} (h : fsSm fs) : fsBd fs := fun f hf => ⟨by have := (h f hf).1; omega, by have := (h f hf).2; omega⟩
theorem fsSm_app3 {fs : List Fd} {x y z : Fd} (h : fsSm fs) (hx : x.n.size ≤ 20 ∧ x.v.size ≤ 20) (hy : y.n.size ≤ 20 ∧ y.v.size ≤ 20) (hz : z.n.size ≤ 20 ∧ z.v.size ≤ 20) : fsSm (fs ++ [x, y, z]) := by
  intro f hf
  rcases List.mem_append.1 hf with hf | hf
  · exact h f hf
  · simp at hf
    rcases hf with rfl | rfl | rfl <;> assumption
theorem fitL_sm {max : Int} {fs : List Fd} (h : fsSm fs) : fsSm (fitL max fs) := by
  intro f hf
  rw [fitL_take] at hf
  exact h f (List.mem_of_mem_take hf)
theorem fitL_16 {max : Int} {fs : List Fd} (h0 : 0 ≤ max) (h1 : max ≤ 64) : (fitL max fs).length ≤ 16 := by
  have h2 := fitL_sum max fs h0
  have h3 := fSum_four (fitL max fs)
  omega

theorem l71Field_v (b N : Nat) (w0 w : World) (hst : St2 w0 w b N) (hN : N ≤ 800000) :
    Calls Tryz.prog 28 #[.pointer (some ⟨b, 0, none⟩)] w fun e w' => ∃ f : Fd, e = .returned (.agg #[.string f.n, .string f.v, .bool f.q]) ∧ f.n.size ≤ 20 ∧ f.v.size ≤ 20 ∧ St2 w0 w' b (N + 70) := l71Field_any b N w0 w hst hN

set_option maxRecDepth 100000 in
set_option maxHeartbeats 2000000 in
theorem l71Table_any (b N : Nat) (w0 w : World) (hst : St2 w0 w b N) (hN : N ≤ 500000) :
    Calls Tryz.prog 13 #[.pointer (some ⟨b, 0, none⟩)] w fun e w' => ∃ (fs : List Fd) (max : Int) (a : Option Addr) (cap : Nat), e = .returned (.agg #[.slice a fs.length cap, .int .i64 max]) ∧ fs.length ≤ 20 ∧ fsSm fs ∧ -1 ≤ max ∧ max ≤ 65 ∧ w'.ownsRow w.heap.size 52 3 (.slice a fs.length cap) fs.length (cellsF fs) ∧ St2 w0 w' b (N + 1000) := by
  have hlt := hst.lt
  have hne : w.heap.size ≠ b := by omega
  have HST : Hid (St2 w0 w b N) := hst
  go_enter Tryz.func13, Tryz.ntmps13
  go_wp2_with fail
  have e1 : (w.alloc (.cells #[.slice none 0 0, .int .i64 0] 25)).heap[w.heap.size]? = some (.cells #[.slice none 0 0, .int .i64 0] 25 (0, 0)) := heap_alloc_last w _
  have o1 := own_zero3 (w.alloc (.cells #[.slice none 0 0, .int .i64 0] 25)) 52
  rw [World.size_alloc] at o1
  have s1 := ((hst.alloc (.cells #[.slice none 0 0, .int .i64 0] 25)).alloc (.cells #[] 52)).alloc (.cells (([64, 64, 40, 20, 0] : List Int).map (Value.int .i64)).toArray 3)
  refine (pick_st2 b N 5 _ _ s1.self (by omega) (by decide)).mono ?_
  rintro e w2 ⟨v2, rfl, v20, v21, k2, o2⟩
  have hR2 := k2.blk (blkT (blkT e1 _) _) hne
  have hO2 := own_baseT (own_st2 (o1.alloc _) k2 (by omega)) (b' := w.heap.size) (by omega)
  have s2 := s1.step k2
  obtain ⟨mx, hmx, mx0, mx1⟩ := idxL [64, 64, 40, 20, 0] 0 64 o2 (by simp; omega) v2 v20 (by simp; omega) (by decide)
  rw [World.size_alloc, World.size_alloc] at hmx
  have hs2 : w.heap.size < w2.heap.size := (Array.getElem?_eq_some_iff.1 hR2).1
  clear o2 k2 s1 o1 e1
  go_wp2_with fail
  have s2' := s2.alloc (.cells #[.slice (some ⟨w.heap.size + 1, 0, none⟩) 0 0, .int .i64 mx] 25)
  have hT2 : (w2.alloc (.cells #[.slice (some ⟨w.heap.size + 1, 0, none⟩) 0 0, .int .i64 mx] 25)).heap[w2.heap.size]? = some (.cells #[.slice (some ⟨w.heap.size + 1, 0, none⟩) 0 0, .int .i64 mx] 25 (0, 0)) := heap_alloc_last w2 _
  refine (pick_st2 b (N + 1) 7 _ _ s2'.self (by omega) (by decide)).mono ?_
  rintro e w3 ⟨v3, rfl, v30, v31, k3, _⟩
  obtain ⟨T, hTe⟩ : ∃ T, w2.heap.size = T := ⟨_, rfl⟩
  rw [hTe] at hT2 hs2 ⊢
  have hTb : b < T := by omega
  have hTn : T ≠ w.heap.size := by omega
  have hTw : w0.heap.size ≤ T := by have := HST.out.kept.size; omega
  have hT3 := k3.blk hT2 (by omega)
  have hR3 := k3.blk (blkT hR2 _) hne
  have hO3 := own_st2 (hO2.alloc _) k3 hlt
  have s3 := s2'.step k3
  clear hmx hT2 hR2 hO2 s2 s2' k3 hTe v20 v21
  obtain ⟨m3, rfl⟩ : ∃ m : Nat, v3 = (m : Int) := ⟨v3.toNat, by omega⟩
  go_wp2_with fail
  go_loopw [4] (fun nv wr => ∃ (j m : Nat) (fs : List Fd) (a : Option Addr) (c : Nat), m + j ≤ 6 ∧ nv = .int .i64 m ∧ fs.length ≤ 16 ∧ fsSm fs ∧ wr.heap[T]? = some (.cells #[.slice a fs.length c, .int .i64 mx] 25 (0, 0)) ∧ wr.ownsRow w.heap.size 52 3 (.slice a fs.length c) fs.length (cellsF fs) ∧ wr.heap[w.heap.size]? = some (.cells #[.slice none 0 0, .int .i64 0] 25 (0, 0)) ∧ St2 w0 wr b (N + 2 + 70 * j)) (fun nv _ => (intOf nv).toNat)
  case atStart => exact ⟨0, m3, [], _, 0, by omega, rfl, by simp, (by intro f hf; cases hf), hT3, hO3, hR3, s3⟩
  case round =>
    clear hT3 hO3 hR3 s3
    obtain ⟨j, m, fs, a, c, hmj, rfl, hf16, hsm, hT, hO, hR, hs⟩ := hrel
    by_cases hm : 0 < m
    · have hm' : (0 : Int) < m := by omega
      go_wp2_with fail
      refine (l71Field_v b (N + 2 + 70 * j) _ _ hs.self (by omega)).mono ?_
      rintro e w4 ⟨f, rfl, hfn, hfv, k4⟩
      have hT4 := k4.blk hT (by omega)
      have hR4 := k4.blk hR hne
      have hO4 := own_st2 hO k4 hlt
      have s4 := hs.step k4
      clear hs k4 hT hR hO
      have hok := fun w => specFieldOk f w (by omega) (by omega)
      unfold Fd.val at hok
      have hadd := fun (w' : World) (h : Fs w' a fs.length c fs) => l3Add_any fs f a fs.length c mx w' h hsm.bd ⟨by omega, by omega⟩ (by omega) mx0 (by omega)
      unfold Fd.val at hadd
      have s4' := s4.alloc (.cells #[.string f.n, .string f.v, .bool f.q] 52)
      have hG4 : (w4.alloc (.cells #[.string f.n, .string f.v, .bool f.q] 52)).heap[w4.heap.size]? = some (.cells #[.string f.n, .string f.v, .bool f.q] 52 (0, 0)) := heap_alloc_last w4 _
      have hbA : Below w4.heap.size w4 (w4.alloc (.cells #[.string f.n, .string f.v, .bool f.q] 52)) := (Below.refl _ _).alloc (Nat.le_refl _) _
      cases hfo : fOk f with
      | false =>
        rw [hfo] at hok
        clear hfo hadd
        go_wp2_with (go_at_call 29; refine (hok _).mono ?_; clear hok; rintro e w5 ⟨rfl, hb5⟩)
        go_roundw
        case rel => exact ⟨j + 1, m - 1, fs, a, c, by omega, by congr 1; omega, hf16, hsm, (hb5.block _ (Array.getElem?_eq_some_iff.1 (blkT hT4 _)).1).trans (blkT hT4 _), own_belowT (hO4.alloc _) hb5, (hb5.block _ (Array.getElem?_eq_some_iff.1 (blkT hR4 _)).1).trans (blkT hR4 _), (s4'.grow hb5).more2 (by omega)⟩
        case measure => simp [intOf]; omega
      | true =>
        rw [hfo] at hok
        clear hfo
        have hsm2 : fsSm (⟨f.n, f.v, false⟩ :: fs) := by
          intro x hx
          rcases List.mem_cons.1 hx with rfl | hx
          · exact ⟨hfn, hfv⟩
          · exact hsm x hx
        have HSM2 : Hid (fsSm (⟨f.n, f.v, false⟩ :: fs)) := hsm2
        have HS4 : Hid (St2 w0 (w4.alloc (.cells #[.string f.n, .string f.v, .bool f.q] 52)) b (N + 2 + 70 * j + 70)) := s4'
        obtain ⟨fl, hfl⟩ : ∃ fl, fitL mx (⟨f.n, f.v, false⟩ :: fs) = fl := ⟨_, rfl⟩
        rw [hfl] at hadd
        have HFL : Hid (fitL mx (⟨f.n, f.v, false⟩ :: fs) = fl) := hfl
        clear hsm2 s4' s4 hfl
        go_wp2_with (first | (go_at_call 29; refine (hok _).mono ?_; clear hok; rintro e w5 ⟨rfl, hb5⟩; have hT5 := (hb5.block _ (Array.getElem?_eq_some_iff.1 (blkT hT4 _)).1).trans (blkT hT4 _); have hR5 := (hb5.block _ (Array.getElem?_eq_some_iff.1 (blkT hR4 _)).1).trans (blkT hR4 _); have hG5 := (hb5.block _ (Array.getElem?_eq_some_iff.1 hG4).1).trans hG4; have hO5 := own_belowT (hO4.alloc _) hb5; have t0 := cell_of_row _ _ 0 _ _ _ hT5; have t1 := cell_of_row _ _ 1 _ _ _ hT5; have g0 := cell_of_row _ _ 0 _ _ _ hG5; have g1 := cell_of_row _ _ 1 _ _ _ hG5; have g2 := cell_of_row _ _ 2 _ _ _ hG5) | (go_at_call 30; refine (hadd _ (own_Fs hO5)).mono ?_; clear hadd; rintro e w6 ⟨v6, rfl, hown6, hb6⟩; obtain ⟨a6, c6, rfl⟩ := own_formT hown6; have hT6 := (hb6.block _ (Array.getElem?_eq_some_iff.1 hT5).1).trans hT5; have hR6 := (hb6.block _ (Array.getElem?_eq_some_iff.1 hR5).1).trans hR5) | (refine wpList_store_row rfl 25 _ _ rfl T #[.slice a6 fl.length c6, .int .i64 mx] rfl rfl 25 _ hT6 infoT2 rfl (by simp [Value.oneCell']) ?_))
        have hg := grown_setRowT w6 T #[.slice a6 fl.length c6, .int .i64 mx]
        have s6 := (HS4.out.grow hb5).grow hb6
        have h5 : w.heap.size ≤ w5.heap.size := by have := (Array.getElem?_eq_some_iff.1 hR5).1; omega
        go_roundw
        case rel => exact ⟨j + 1, m - 1, fl, a6, c6, by omega, by congr 1; omega, by rw [← HFL.out]; exact fitL_16 mx0 mx1, by rw [← HFL.out]; exact fitL_sm HSM2.out, setRow_heap _ _ _ _ _ _ hT6, own_baseT (hown6.kept hg (.inr (fun e => not_rowT hT6 (by decide) hown6 e.symm))) h5, (hg.block _ (Array.getElem?_eq_some_iff.1 hR6).1 (fun e => hTn (by injection e with e; exact e.symm))).trans hR6, (s6.setRow _ _ hTw hTb).more2 (by omega)⟩
        case measure => simp [intOf]; omega
    · have hm' : (m : Int) ≤ 0 := by omega
      have HSM : Hid (fsSm fs) := hsm
      go_wp2_with fail
      refine (pick_st2 b (N + 2 + 70 * j) 24 _ _ hs.self (by omega) (by decide)).mono ?_
      rintro e w8 ⟨v8, rfl, v80, v81, k8, _⟩
      have hT8 := k8.blk hT (by omega)
      have hR8 := k8.blk hR hne
      have hO8 := own_st2 hO k8 hlt
      have s8 := hs.step k8
      have hs8 : T < w8.heap.size := (Array.getElem?_eq_some_iff.1 hT8).1
      clear hs k8 hT hR hO hsm
      by_cases e0 : (v8 == 0) = true
      · go_wp2_with fail
        have s8' := s8.alloc (.cells (([-1, 65, 3] : List Int).map (Value.int .i64)).toArray 3)
        refine (pick_st2 b (N + 2 + 70 * j + 1) 3 _ _ s8'.self (by omega) (by decide)).mono ?_
        rintro e w9 ⟨v9, rfl, v90, v91, k9, o9⟩
        obtain ⟨y, hy, y0, y1⟩ := idxL [-1, 65, 3] (-1) 65 o9 (by omega) v9 v90 (by simp; omega) (by decide)
        have hT9 := k9.blk (blkT hT8 _) (by omega)
        have hR9 := k9.blk (blkT hR8 _) hne
        have hO9 := own_st2 (hO8.alloc _) k9 hlt
        have s9 := s8'.step k9
        have z1 := cell_of_row _ _ 1 _ _ _ hT9
        have f1 := frz3 1 hT9
        have hT10 := set2b_heap (.int .i64 y) hT9
        have hR10 := (Below.heap_setCell w9 ⟨T, 1, none⟩ (.int .i64 y) w.heap.size (fun e => hTn e.symm)).trans hR9
        have hO10 := own_setT hO9 ⟨T, 1, none⟩ (.int .i64 y) (not_rowT hT9 (by decide) hO9)
        have s10 := s9.set ⟨T, 1, none⟩ (.int .i64 y) hTw hTb
        have t0 := cell_of_row _ _ 0 _ _ _ hT10
        have t1 := cell_of_row _ _ 1 _ _ _ hT10
        simp at z1 t0 t1
        clear k9 o9 hT9 hR9 hO9 s9 hT8 hR8 hO8 s8 s8'
        go_wp2_with (refine wpList_store_row rfl 25 _ _ rfl w.heap.size #[.slice a fs.length c, .int .i64 y] rfl rfl 25 _ hR10 infoT2 rfl (by simp [Value.oneCell']) ?_)
        have hg := grown_setRowT (w9.setCell ⟨T, 1, none⟩ (.int .i64 y)) w.heap.size #[.slice a fs.length c, .int .i64 y]
        exact bodyPost_ret (results_cell_row rfl _ _ w.heap.size 25 #[.slice a fs.length c, .int .i64 y] (0, 0) _ rfl (setRow_heap _ _ _ _ _ _ hR10) Tryz.underlying25 rfl infoT2) rfl ⟨fs, y, a, c, rfl, by omega, HSM.out, by omega, by omega, hO10.kept hg (.inr (fun e => not_rowT hR10 (by decide) hO10 e.symm)), (s10.setRow _ _ HST.out.kept.size hlt).more2 (by omega)⟩
      · have e0' : (v8 == 0) = false := by simpa using e0
        clear e0
        by_cases e1 : (v8 == 1) = true
        · have hmx : Tryz.prog.follows .mixedOrders = true := by kernel_rfl
          have sA : St2 w0 w8.drew b (N + 2 + 70 * j + 1) := s8.grow ((Below.refl _ _).drew)
          have hTA : w8.drew.heap[T]? = some (.cells #[.slice a fs.length c, .int .i64 mx] 25 (0, 0)) := hT8
          have hRA : w8.drew.heap[w.heap.size]? = some (.cells #[.slice none 0 0, .int .i64 0] 25 (0, 0)) := hR8
          have hOA : w8.drew.ownsRow w.heap.size 52 3 (.slice a fs.length c) fs.length (cellsF fs) := hO8
          have qA := cell_of_row _ _ 0 _ _ _ hTA
          clear s8 hT8 hR8 hO8
          go_wp2
          go_region_law ((first | (go_simp; refine (l71Field_v b (N + 2 + 70 * j + 1 + 140) _ _ sC.self (by omega)).mono ?_; rintro e wD ⟨fD, rfl, hDn, hDv, kD⟩; have sD := sC.step kD; have hTD := kD.blk hTC (by omega); have hRD := kD.blk hRC hne; have hOD := own_st2 hOC kD hlt; have qD := cell_of_row _ _ 0 _ _ _ hTD; have qE : (wD.alloc (.cells #[.string fB.n, .string fB.v, .bool fB.q, .string fC.n, .string fC.v, .bool fC.q, .string fD.n, .string fD.v, .bool fD.q] 52)).cell? ⟨T, 0, none⟩ = some (.slice a fs.length c) := cell_of_row _ _ 0 _ _ _ (blkT hTD _); clear sC) | (go_simp; refine (l71Field_v b (N + 2 + 70 * j + 1 + 70) _ _ sB.self (by omega)).mono ?_; rintro e wC ⟨fC, rfl, hCn, hCv, kC⟩; have sC := sB.step kC; have hTC := kC.blk hTB (by omega); have hRC := kC.blk hRB hne; have hOC := own_st2 hOB kC hlt; have qC := cell_of_row _ _ 0 _ _ _ hTC; clear sB) | (go_simp; refine (l71Field_v b (N + 2 + 70 * j + 1 + 0) _ _ sA.self (by omega)).mono ?_; rintro e wB ⟨fB, rfl, hBn, hBv, kB⟩; have sB := sA.step kB; have hTB := kB.blk hTA (by omega); have hRB := kB.blk hRA hne; have hOB := own_st2 hOA kB hlt; have qB := cell_of_row _ _ 0 _ _ _ hTB; clear sA) | (have hNs := own_new wD wD.heap.size 52 3 3 (cellsF [fB, fC, fD]) (Nat.le_refl _) (by decide) (by rfl); have hFsN := own_Fs hNs; have hOE := hOD.alloc (.cells (cellsF [fB, fC, fD]).toArray 52); have hTE := blkT hTD (.cells (cellsF [fB, fC, fD]).toArray 52); have hRE := blkT hRD (.cells (cellsF [fB, fC, fD]).toArray 52); have hbs : w.heap.size ≤ (wD.alloc (.cells (cellsF [fB, fC, fD]).toArray 52)).heap.size := Nat.le_of_lt (Array.getElem?_eq_some_iff.1 hRE).1; have hk3 : fs.length + 3 ≤ 3000000 := (by omega); refine step_appFs (wD.alloc (.cells (cellsF [fB, fC, fD]).toArray 52)) (by rfl) (.tmp 39) (.tmp 46) (by rfl) w.heap.size (.slice a fs.length c) fs.length (cellsF fs) (by rfl) hOE (some ⟨wD.heap.size, 0, none⟩) 3 3 [fB, fC, fD] (by rfl) hFsN hk3 hbs ?_; intro v9 w9 hown9 hgrow9; obtain ⟨a9, c9, rfl⟩ := own_formT hown9; have hT9 := (hgrow9.block _ (Array.getElem?_eq_some_iff.1 hTE).1 (not_rowT hTE (by decide) hOE)).trans hTE; have hR9 := (hgrow9.block _ (Array.getElem?_eq_some_iff.1 hRE).1 (not_rowT hRE (by decide) hOE)).trans hRE; have z9 := cell_of_row _ _ 0 _ _ _ hT9; have f9 := frz3 0 hT9)))
          all_goals
            have hT10 := set2a_heap (.slice a9 (fs.length + 3) c9) hT9
            have hR10 := (Below.heap_setCell w9 ⟨T, 0, none⟩ (.slice a9 (fs.length + 3) c9) w.heap.size (fun e => hTn e.symm)).trans hR9
            have hO10 := own_setT hown9 ⟨T, 0, none⟩ (.slice a9 (fs.length + 3) c9) (not_rowT hT9 (by decide) hown9)
            have s9 := (sD.alloc (.cells (cellsF [fB, fC, fD]).toArray 52)).grownBy hgrow9 (fun q hq => by have h1 := (hOE.lt q hq).1; have h2 := HST.out.kept.size; omega)
            have s10 := s9.set ⟨T, 0, none⟩ (.slice a9 (fs.length + 3) c9) hTw hTb
            have t0 := cell_of_row _ _ 0 _ _ _ hT10
            have t1 := cell_of_row _ _ 1 _ _ _ hT10
            simp at t0 t1
            have HSM3 : Hid (fsSm (fs ++ [fB, fC, fD])) := fsSm_app3 HSM.out ⟨hBn, hBv⟩ ⟨hCn, hCv⟩ ⟨hDn, hDv⟩
            clear hBn hBv hCn hCv hDn hDv sD s9 hgrow9 hown9 hOE hFsN hNs hTE hRE hT9 hR9 z9 f9
            go_wp2_with (refine wpList_store_row rfl 25 _ _ rfl w.heap.size #[.slice a9 (fs.length + 3) c9, .int .i64 mx] rfl rfl 25 _ hR10 infoT2 rfl (by simp [Value.oneCell']) ?_)
            have hg := grown_setRowT (w9.setCell ⟨T, 0, none⟩ (.slice a9 (fs.length + 3) c9)) w.heap.size #[.slice a9 (fs.length + 3) c9, .int .i64 mx]
            have hl3 : (fs ++ [fB, fC, fD]).length = fs.length + 3 := by simp
            exact bodyPost_ret (results_cell_row rfl _ _ w.heap.size 25 #[.slice a9 (fs.length + 3) c9, .int .i64 mx] (0, 0) _ rfl (setRow_heap _ _ _ _ _ _ hR10) Tryz.underlying25 rfl infoT2) rfl ⟨fs ++ [fB, fC, fD], mx, a9, c9, by rw [hl3], by omega, HSM3.out, by omega, by omega, by rw [hl3, cellsF_append]; exact hO10.kept hg (.inr (fun e => not_rowT hR10 (by decide) hO10 e.symm)), (s10.setRow _ _ HST.out.kept.size hlt).more2 (by omega)⟩
        · have e1' : (v8 == 1) = false := by simpa using e1
          clear e1
          have t0 := cell_of_row _ _ 0 _ _ _ hT8
          have t1 := cell_of_row _ _ 1 _ _ _ hT8
          simp at t0 t1
          go_wp2_with (refine wpList_store_row rfl 25 _ _ rfl w.heap.size #[.slice a fs.length c, .int .i64 mx] rfl rfl 25 _ hR8 infoT2 rfl (by simp [Value.oneCell']) ?_)
          have hg := grown_setRowT w8 w.heap.size #[.slice a fs.length c, .int .i64 mx]
          exact bodyPost_ret (results_cell_row rfl _ _ w.heap.size 25 #[.slice a fs.length c, .int .i64 mx] (0, 0) _ rfl (setRow_heap _ _ _ _ _ _ hR8) Tryz.underlying25 rfl infoT2) rfl ⟨fs, mx, a, c, rfl, by omega, HSM.out, by omega, by omega, hO8.kept hg (.inr (fun e => not_rowT hR8 (by decide) hO8 e.symm)), (s8.setRow _ _ HST.out.kept.size hlt).more2 (by omega)⟩
end Go.Proofs.YtbhoafiolalgaaaGreat
