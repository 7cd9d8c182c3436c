import Derived.Test.YtbhoafiolalgaaaGreatHD2
import Derived.Test.YtbhoafiolalgaaaGreatBQ
import Derived.Test.YtbhoafiolalgaaaGreatHR2
import Derived.Deep.DeepCutAuto
namespace Go.Proofs.YtbhoafiolalgaaaGreat
open Go.RowKit
set_option linter.unusedVariables false

theorem hWr_size (fs : List Fd) (max : Int) (h : List Fd) : (hWr fs max h).2.size ≤ 222 := by
  cases ht : tOk fs max with
  | false => rw [hWr_bad (by rw [ht]; rfl)]; decide
  | true =>
    cases hh : hOk h with
    | false => rw [hWr_bad (by rw [ht, hh]; rfl)]; decide
    | true =>
      rw [hWr_ok ht hh]
      have h1 := hOk_parts hh
      have h3 := wrH_size h fs max
      dsimp only
      omega
/-- A head's bytes are being drawn: the table lies at T, the answer's place is the first of all. -/
structure RS (w w1 : World) (b T : Nat) (a' : Option Addr) (c' : Nat) (fs : List Fd) (max : Int) (N : Nat) (X : World) : Prop where
  tab : X.heap[T]? = some (.cells #[.slice a' fs.length c', .int .i64 max] 25 (0, 0))
  res : X.heap[w.heap.size]? = some (.cells #[.slice none 0 0, .int .i64 0] 25 (0, 0))
  own : X.ownsRow w1.heap.size 52 3 (.slice a' fs.length c') fs.length (cellsF fs)
  st : St2 w1 X b N
  bel : Below w.heap.size w X
  b1 : b = w.heap.size + 1
  b2 : w1.heap.size = w.heap.size + 1 + 1
  t1 : w1.heap.size ≤ T
theorem RS.grow {w w1 X Y : World} {b T : Nat} {a' : Option Addr} {c' : Nat} {fs : List Fd} {max : Int} {N : Nat} (h : RS w w1 b T a' c' fs max N X) (hb : Below X.heap.size X Y) : RS w w1 b T a' c' fs max N Y :=
  ⟨blkB hb h.tab, blkB hb h.res, own_belowT h.own hb, h.st.grow hb, bt' h.bel hb, h.b1, h.b2, h.t1⟩
theorem RS.drew' {w w1 X : World} {b T : Nat} {a' : Option Addr} {c' : Nat} {fs : List Fd} {max : Int} {N : Nat} (h : RS w w1 b T a' c' fs max N X) : RS w w1 b T a' c' fs max N X.drew := h.grow ((Below.refl _ _).drew)
theorem RS.alloc {w w1 X : World} {b T : Nat} {a' : Option Addr} {c' : Nat} {fs : List Fd} {max : Int} {N : Nat} (h : RS w w1 b T a' c' fs max N X) (o : Obj) : RS w w1 b T a' c' fs max N (X.alloc o) := h.grow ((Below.refl _ _).alloc (Nat.le_refl _) _)
theorem RS.step {w w1 X Y : World} {b T : Nat} {a' : Option Addr} {c' : Nat} {fs : List Fd} {max : Int} {N M : Nat} (h : RS w w1 b T a' c' fs max N X) (k : St2 X Y b M) : RS w w1 b T a' c' fs max M Y := by
  have h1 := h.b1
  have h2 := h.b2
  have h3 := h.t1
  exact ⟨k.blk h.tab (by omega), k.blk h.res (by omega), own_st2 h.own k (by omega), h.st.step k, k.bel h.bel (by omega) h.bel.size, h1, h2, h3⟩
theorem RS.more {w w1 X : World} {b T : Nat} {a' : Option Addr} {c' : Nat} {fs : List Fd} {max : Int} {N : Nat} (h : RS w w1 b T a' c' fs max N X) (M : Nat) (hM : N ≤ M) : RS w w1 b T a' c' fs max M X := ⟨h.tab, h.res, h.own, h.st.more2 hM, h.bel, h.b1, h.b2, h.t1⟩
theorem RS.set2 {w w1 X : World} {b T L : Nat} {a' : Option Addr} {c' : Nat} {fs : List Fd} {max : Int} {N : Nat} {p q : Value} (h : RS w w1 b T a' c' fs max N X) (hL : X.heap[L]? = some (.cells #[p, q] 25 (0, 0))) (h1 : T < L) (x y : Value) : RS w w1 b T a' c' fs max N ((X.setCell ⟨L, 0, none⟩ x).setCell ⟨L, 1, none⟩ y) := by
  have b1 := h.b1
  have b2 := h.b2
  have t1 := h.t1
  have hne := not_rowT hL (by decide) h.own
  have g := fun B (hB : B ≠ L) => ((Below.heap_setCell (X.setCell ⟨L, 0, none⟩ x) ⟨L, 1, none⟩ y B hB).trans (Below.heap_setCell X ⟨L, 0, none⟩ x B hB))
  exact ⟨(g T (by omega)).trans h.tab, (g _ (by omega)).trans h.res, own_setT (own_setT h.own ⟨L, 0, none⟩ x hne) ⟨L, 1, none⟩ y hne, (h.st.set ⟨L, 0, none⟩ x (by show w1.heap.size ≤ L; omega) (by show b < L; omega)).set ⟨L, 1, none⟩ y (by show w1.heap.size ≤ L; omega) (by show b < L; omega), (h.bel.setCell (p := ⟨L, 0, none⟩) (by show w.heap.size ≤ L; omega) x).setCell (p := ⟨L, 1, none⟩) (by show w.heap.size ≤ L; omega) y, b1, b2, t1⟩
theorem RS.six {w w1 X : World} {b T : Nat} {a' : Option Addr} {c' : Nat} {fs : List Fd} {max : Int} {N : Nat} (h : RS w w1 b T a' c' fs max N X) : X.cell? ⟨T, 0, none⟩ = some (.slice a' fs.length c') ∧ X.cell? ⟨T, 1, none⟩ = some (.int .i64 max) ∧ X.cell? ⟨w.heap.size, 0, none⟩ = some (.slice none 0 0) ∧ X.cell? ⟨w.heap.size, 1, none⟩ = some (.int .i64 0) ∧ X.frozen? ⟨w.heap.size, 0, none⟩ = false ∧ X.frozen? ⟨w.heap.size, 1, none⟩ = false :=
  ⟨(row2c h.tab).1, (row2c h.tab).2, (row2c h.res).1, (row2c h.res).2, frz3 0 h.res, frz3 1 h.res⟩
/-- The end: the table is laid into the answer's place. -/
theorem RS.out {w w1 X : World} {b T : Nat} {a' : Option Addr} {c' : Nat} {fs : List Fd} {max : Int} {N : Nat} (h : RS w w1 b T a' c' fs max N X) (hl : fs.length ≤ 20) (hs : fsSm fs) : (loadVar 25 ⟨w.heap.size, 0, none⟩).run Tryz.prog ((X.setCell ⟨w.heap.size, 0, none⟩ (.slice a' fs.length c')).setCell ⟨w.heap.size, 1, none⟩ (.int .i64 max)) = .ok (.agg #[.slice a' fs.length c', .int .i64 max]) ((X.setCell ⟨w.heap.size, 0, none⟩ (.slice a' fs.length c')).setCell ⟨w.heap.size, 1, none⟩ (.int .i64 max)) ∧ DF ((X.setCell ⟨w.heap.size, 0, none⟩ (.slice a' fs.length c')).setCell ⟨w.heap.size, 1, none⟩ (.int .i64 max)) a' c' fs ∧ Below w.heap.size w ((X.setCell ⟨w.heap.size, 0, none⟩ (.slice a' fs.length c')).setCell ⟨w.heap.size, 1, none⟩ (.int .i64 max)) := by
  have hne := not_rowT h.res (by decide) h.own
  exact ⟨load_tab (set2_heap _ _ h.res), ⟨by omega, hs, own_Fs (own_setT (own_setT h.own ⟨w.heap.size, 0, none⟩ _ hne) ⟨w.heap.size, 1, none⟩ _ hne)⟩, (h.bel.setCell (p := ⟨w.heap.size, 0, none⟩) (Nat.le_refl _) _).setCell (p := ⟨w.heap.size, 1, none⟩) (Nat.le_refl _) _⟩

theorem RS.outD {w w1 X : World} {b T : Nat} {a' : Option Addr} {c' : Nat} {fs : List Fd} {max : Int} {N : Nat} (h : RS w w1 b T a' c' fs max N X) (hl : fs.length ≤ 20) (hs : fsSm fs) : (loadVar 25 ⟨w.heap.size, 0, none⟩).run Tryz.prog ((X.setCell ⟨w.heap.size, 0, none⟩ (.slice a' fs.length c')).setCell ⟨w.heap.size, 1, none⟩ (.int .i64 max)).drew = .ok (.agg #[.slice a' fs.length c', .int .i64 max]) ((X.setCell ⟨w.heap.size, 0, none⟩ (.slice a' fs.length c')).setCell ⟨w.heap.size, 1, none⟩ (.int .i64 max)).drew ∧ DF ((X.setCell ⟨w.heap.size, 0, none⟩ (.slice a' fs.length c')).setCell ⟨w.heap.size, 1, none⟩ (.int .i64 max)).drew a' c' fs ∧ Below w.heap.size w ((X.setCell ⟨w.heap.size, 0, none⟩ (.slice a' fs.length c')).setCell ⟨w.heap.size, 1, none⟩ (.int .i64 max)).drew := by
  obtain ⟨_, h2, h3⟩ := h.out hl hs
  exact ⟨load_tab (by rw [drew_heap]; exact set2_heap _ _ h.res), ⟨h2.len, h2.sm, h2.fs.below ((Below.refl _ _).drew)⟩, h3.drew⟩

theorem RS.two {w w1 X : World} {b T : Nat} {a' : Option Addr} {c' : Nat} {fs : List Fd} {max : Int} {N : Nat} (h : RS w w1 b T a' c' fs max N X) : X.cell? ⟨T, 0, none⟩ = some (.slice a' fs.length c') ∧ X.cell? ⟨T, 1, none⟩ = some (.int .i64 max) := row2c h.tab
theorem RS.two_set {w w1 X : World} {b T : Nat} {a' : Option Addr} {c' : Nat} {fs : List Fd} {max : Int} {N : Nat} (h : RS w w1 b T a' c' fs max N X) (x y : Value) : ((X.setCell ⟨w.heap.size, 0, none⟩ x).setCell ⟨w.heap.size, 1, none⟩ y).cell? ⟨T, 0, none⟩ = some (.slice a' fs.length c') ∧ ((X.setCell ⟨w.heap.size, 0, none⟩ x).setCell ⟨w.heap.size, 1, none⟩ y).cell? ⟨T, 1, none⟩ = some (.int .i64 max) := by
  have b2 := h.b2
  have t1 := h.t1
  have hne : T ≠ w.heap.size := by omega
  obtain ⟨h0, h1⟩ := h.two
  exact ⟨by rw [cell_set _ _ _ _ hne, cell_set _ _ _ _ hne]; exact h0, by rw [cell_set _ _ _ _ hne, cell_set _ _ _ _ hne]; exact h1⟩
theorem byte_one (n : Int) (w : World) (h0 : 0 ≤ n) (h1 : n ≤ 255) : Calls Tryz.prog 17 #[.int .i64 n] w fun e w' => ∃ u : ByteArray, e = .returned (.string u) ∧ u.size ≤ 1 ∧ Below w.heap.size w w' := by
  refine (l1Byte_any n w h0 h1).mono ?_
  rintro e w' ⟨rfl, hb⟩
  exact ⟨_, rfl, Nat.le_of_eq (strOfNums_size _), hb⟩
theorem wword (t : ByteArray) (w : World) (h : t.size ≤ 20) : Calls Tryz.prog 18 #[.string t] w fun e w' => ∃ u : ByteArray, e = .returned (.string u) ∧ u.size ≤ 17 ∧ Below w.heap.size w w' := by
  refine (specWrite t w (by unfold maxLen; omega)).mono ?_
  rintro e w' ⟨rfl, hb⟩
  exact ⟨_, rfl, wrV_size t, hb⟩
theorem RS.outR {w w1 X : World} {b T : Nat} {a' : Option Addr} {c' : Nat} {fs : List Fd} {max : Int} {N : Nat} (h : RS w w1 b T a' c' fs max N X) (hl : fs.length ≤ 20) (hs : fsSm fs) : (loadVar 25 ⟨w.heap.size, 0, none⟩).run Tryz.prog (X.setRow w.heap.size #[.slice a' fs.length c', .int .i64 max]) = .ok (.agg #[.slice a' fs.length c', .int .i64 max]) (X.setRow w.heap.size #[.slice a' fs.length c', .int .i64 max]) ∧ DF (X.setRow w.heap.size #[.slice a' fs.length c', .int .i64 max]) a' c' fs ∧ Below w.heap.size w (X.setRow w.heap.size #[.slice a' fs.length c', .int .i64 max]) :=
  ⟨load_tab (setRow_heap _ _ _ _ _ _ h.res), ⟨by omega, hs, own_Fs (own_setRowT _ h.own h.res (by decide))⟩, bel_setRow _ h.bel h.bel.size (Nat.le_refl _)⟩

set_option maxRecDepth 100000 in
set_option maxHeartbeats 3000000 in
theorem drawHeadRead (a : Option Addr) (len cap : Nat) (zs : List Int) (w : World) (hr : Row w a len cap zs) :
    Calls Tryz.prog 4 #[.slice a len cap] w fun e w' => ∃ (fs : List Fd) (max : Int) (a' : Option Addr) (c' : Nat) (s : ByteArray), e = .returned (.tuple #[.agg #[.slice a' fs.length c', .int .i64 max], .string s]) ∧ s.size ≤ 300 ∧ DF w' a' c' fs ∧ Below w.heap.size w w' := by
  have HR : Hid (Row w a len cap zs) := hr
  clear hr
  have hb0 : Below w.heap.size w (w.alloc (.cells #[.slice none 0 0, .int .i64 0] 25)) := (Below.refl _ _).alloc (Nat.le_refl _) _
  have hR0 : Hid ((w.alloc (.cells #[.slice none 0 0, .int .i64 0] 25)).heap[w.heap.size]? = some (.cells #[.slice none 0 0, .int .i64 0] 25 (0, 0))) := heap_alloc_last w _
  go_enter Tryz.func4, Tryz.ntmps4
  go_wp2_with fail
  refine (open_st2 _ _ _ _ _ (HR.out.below hb0)).mono ?_
  rw [World.size_alloc]
  rintro e w1 ⟨rfl, s1, hb1, hz1⟩
  have hR1 := (hb1.block w.heap.size (by simp)).trans hR0.out
  have hB1 : Below w.heap.size w w1 := hb0.trans (hb1.mono (by simp))
  clear hR0 hb0 hb1 HR
  go_wp2_with fail
  refine (l71Table_any (w.heap.size + 1) 0 _ _ s1 (by decide)).mono ?_
  rintro e w2 ⟨fs, max, a', c', rfl, hl, hsm, m0, m1, hown, s2⟩
  have HSM : Hid (fsSm fs) := hsm
  have hz2 := s2.kept.size
  have hRS : RS w w1 (w.heap.size + 1) w2.heap.size a' c' fs max 1000 (w2.alloc (.cells #[.slice a' fs.length c', .int .i64 max] 25)) :=
    ⟨heap_alloc_last w2 _, blkT (s2.blk hR1 (by omega)) _, hown.alloc _, (s2.alloc _).more2 (by omega), (s2.bel hB1 (by omega) hB1.size).alloc (s2.bel hB1 (by omega) hB1.size).size _, rfl, hz1, hz2⟩
  have HZ : Hid (w2.heap.size < (w2.alloc (.cells #[.slice a' fs.length c', .int .i64 max] 25)).heap.size) := by show _ < _; simp
  clear s1 hR1 hB1 hsm hown s2
  go_upto_region 3 with fail
  obtain ⟨T, hT⟩ : ∃ T, w2.heap.size = T := ⟨_, rfl⟩
  rw [hT] at hRS HZ hz2 ⊢
  clear hT
  refine wabs (fun V => RS w w1 (w.heap.size + 1) T a' c' fs max 1000 V ∧ T < V.heap.size) ⟨hRS, HZ.out⟩ ?_
  clear hRS HZ
  rintro V ⟨hRS, hTV⟩
  have hmx : Tryz.prog.follows .mixedOrders = true := by kernel_rfl
  have HRS : Hid _ := hRS
  have sA := hRS.drew'
  have sB := (hRS.alloc (.cells #[.slice none 0 0, .int .i64 0] 25)).drew'
  have zB : (V.alloc (.cells #[.slice none 0 0, .int .i64 0] 25)).drew.heap[V.heap.size]? = some (.cells #[.slice none 0 0, .int .i64 0] 25 (0, 0)) := by rw [drew_heap]; exact heap_alloc_last V (.cells #[.slice none 0 0, .int .i64 0] 25)
  obtain ⟨p0, p1, _, _, _, _⟩ := hRS.six
  clear hRS
  go_cut [7] from 13 to 19 (fun s7 wx => ∃ t : ByteArray, s7 = .string t ∧ t.size ≤ 222 ∧ RS w w1 (w.heap.size + 1) T a' c' fs max 2000 wx)
  case first =>
    go_region_law ((first | (go_simp; refine (l71Head_any (w.heap.size + 1) 1000 _ _ sA.st.self (by decide)).mono ?_; rintro e w3 ⟨h, ah, ch, rfl, hlh, hsmh, hownh, k3⟩; have s3 := sA.step k3; have hW := fun (w' : World) (h1 : Fs w' a' fs.length c' fs) (h2 : Fs w' ah h.length ch h) => specHeadWrite fs h a' ah _ c' _ ch max w' h1 HSM.out.bd (by omega) h2 hsmh.bd (by omega); have hsz := hWr_size fs max h; obtain ⟨⟨⟨xs, mx⟩, bs⟩, hr⟩ : ∃ r, hWr fs max h = r := ⟨_, rfl⟩; rw [hr] at hW hsz; unfold HwAns at hW; dsimp only at hW hsz; clear hr; have F_h := own_Fs hownh; have hT3 : T < w3.heap.size := (Array.getElem?_eq_some_iff.1 s3.tab).1; obtain ⟨x0, x1, _, _, _, _⟩ := s3.six; obtain ⟨y0, y1, _, _, _, _⟩ := (s3.alloc (.cells #[.slice none 0 0, .int .i64 0] 25)).six; clear k3 hownh) | (go_simp; refine (l71Head_any (w.heap.size + 1) 1000 _ _ sB.st.self (by decide)).mono ?_; rintro e w3 ⟨h, ah, ch, rfl, hlh, hsmh, hownh, k3⟩; have s3 := sB.step k3; have z3 := k3.blk zB (by have := sA.b2; have := sA.t1; omega); have hW := fun (w' : World) (h1 : Fs w' a' fs.length c' fs) (h2 : Fs w' ah h.length ch h) => specHeadWrite fs h a' ah _ c' _ ch max w' h1 HSM.out.bd (by omega) h2 hsmh.bd (by omega); have hsz := hWr_size fs max h; obtain ⟨⟨⟨xs, mx⟩, bs⟩, hr⟩ : ∃ r, hWr fs max h = r := ⟨_, rfl⟩; rw [hr] at hW hsz; unfold HwAns at hW; dsimp only at hW hsz; clear hr; have F_h := own_Fs hownh; have hT3 : T < w3.heap.size := (Array.getElem?_eq_some_iff.1 s3.tab).1; obtain ⟨x0, x1, _, _, _, _⟩ := s3.six; obtain ⟨y0, y1, _, _, _, _⟩ := (s3.alloc (.cells #[.slice none 0 0, .int .i64 0] 25)).six; clear k3 hownh) | (go_simp; refine (hW _ (own_Fs s3.own) F_h).mono ?_; clear hW; rintro e w4 ⟨ax, nx, cx, rfl, F_x, hb4⟩; have s4 := s3.grow hb4; (first | (have z4 := blkB hb4 z3; obtain ⟨l0, l1⟩ := row2c z4; have l2 := frz3 0 z4; have l3 := frz3 1 z4) | skip)) | (go_simp; refine (hW _ (own_Fs (s3.alloc (.cells #[.slice none 0 0, .int .i64 0] 25)).own) (F_h.below ((Below.refl _ _).alloc (Nat.le_refl _) _))).mono ?_; clear hW; rintro e w4 ⟨ax, nx, cx, rfl, F_x, hb4⟩; have s4 := (s3.alloc (.cells #[.slice none 0 0, .int .i64 0] 25)).grow hb4; have z4 := blkB hb4 (heap_alloc_last w3 (.cells #[.slice none 0 0, .int .i64 0] 25)); obtain ⟨l0, l1⟩ := row2c z4; have l2 := frz3 0 z4; have l3 := frz3 1 z4)))
    all_goals
      go_wp2_with fail
      go_meet
      first
        | exact ⟨_, rfl, hsz, s4.set2 z4 (by omega) _ _⟩
        | exact ⟨_, rfl, hsz, s4.alloc _⟩
  case rest =>
    obtain ⟨t, rfl, ht, hX⟩ := hcut
    clear sA sB zB p0 p1 HRS hTV
    go_wp2_with fail
    refine (pick_st2 (w.heap.size + 1) 2000 _ _ _ hX.st.self (by omega) (by omega)).mono ?_
    rintro e w5 ⟨v5, rfl, v50, v51, k5, _⟩
    have s5 := hX.step k5
    obtain ⟨n5, rfl⟩ : ∃ n : Nat, v5 = (n : Int) := ⟨v5.toNat, by omega⟩
    have hn5 : n5 ≤ t.size := by omega
    have hn5' : (n5 : Int) ≤ t.size := by omega
    clear hX k5 v50 v51
    go_wp2_with fail
    refine (pick_st2 (w.heap.size + 1) (2000 + 1) _ _ _ s5.st.self (by omega) (by omega)).mono ?_
    rintro e w6 ⟨v6, rfl, v60, v61, k6, _⟩
    have s6 := s5.step k6
    clear s5 k6
    obtain ⟨p0, p1, p2, p3, p4, p5⟩ := s6.six
    have fin : ∀ (X : World) (u : ByteArray) (N : Nat), RS w w1 (w.heap.size + 1) T a' c' fs max N X → u.size ≤ 300 → True := fun _ _ _ _ _ => trivial
    clear fin
    by_cases e0 : (v6 == 0) = true
    · go_wp2
      go_region
      all_goals
        have hD := s6.outD hl HSM.out
        go_wp2
        exact bodyPost_ret (results_cell_tmp rfl _ _ w.heap.size #[.slice a' fs.length c', .int .i64 max] rfl hD.1) rfl ⟨fs, max, a', c', _, rfl, by simp; omega, hD.2.1, hD.2.2⟩
    · have e0' : (v6 == 0) = false := by simpa using e0
      clear e0
      have hSd : w6.drew.cell? ⟨T, 0, none⟩ = some (.slice a' fs.length c') ∧ w6.drew.cell? ⟨T, 1, none⟩ = some (.int .i64 max) := s6.drew'.two
      have hbyte := fun (n : Int) (w' : World) (h0 : 0 ≤ n) (h1 : n ≤ 255) => byte_one n w' h0 h1
      by_cases e1 : (v6 == 1) = true
      · have hsl1 : ∀ W : World, (Instr.slice 9 (.string t) none (some (.int .i64 (n5 : Int))) none).run Tryz.prog W = .ok (.string (t.extract 0 n5)) W := fun W => by
          have h := run_slice_string_h (P := Tryz.prog) W 9 t Tryz.underlying9 .i64 (n5 : Int) (by omega) (by omega)
          rw [Int.toNat_natCast] at h
          exact h
        have hsl2 : ∀ W : World, (Instr.slice 9 (.string t) (some (.int .i64 (n5 : Int))) none none).run Tryz.prog W = .ok (.string (t.extract n5 t.size)) W := fun W => by
          have h := run_slice_string_l (P := Tryz.prog) W 9 t Tryz.underlying9 .i64 (n5 : Int) (by omega) (by omega)
          rw [Int.toNat_natCast] at h
          exact h
        have hp1 : (t.extract 0 n5).size ≤ 222 := by rw [ByteArray.size_extract]; omega
        have hq1 : (t.extract n5 t.size).size ≤ 222 - n5 := by rw [ByteArray.size_extract]; omega
        have hp2 : (t.extract 0 n5).size ≤ n5 := by rw [ByteArray.size_extract]; omega
        obtain ⟨p, hp⟩ : ∃ p, t.extract 0 n5 = p := ⟨_, rfl⟩
        obtain ⟨q, hq⟩ : ∃ q, t.extract n5 t.size = q := ⟨_, rfl⟩
        rw [hp] at hsl1 hp1 hp2
        rw [hq] at hsl2 hq1
        have hpk := pick_st2 (w.heap.size + 1) (2000 + 1 + 1) 256 _ _ s6.drew'.st.self (by omega) (by decide)
        have s6d := s6.drew'
        clear s6 p0 p1 p2 p3 p4 p5
        go_wp2
        go_region_held3 (fun w' => w'.cell? ⟨T, 0, none⟩ = some (.slice a' fs.length c') ∧ w'.cell? ⟨T, 1, none⟩ = some (.int .i64 max)) (first | with_reducible assumption | with_reducible exact s8.two_set _ _) ((first | (go_at_call 16; refine hpk.mono ?_; clear hpk; rintro e w7 ⟨v7, rfl, v70, v71, k7, _⟩; have hwv : IntKind.i64.wrap (16 + v7) = 16 + v7 := (by rw [IntKind.wrap_i64]; omega); have s7 := s6d.step k7; have hS7 : w7.cell? ⟨T, 0, none⟩ = some (.slice a' fs.length c') ∧ w7.cell? ⟨T, 1, none⟩ = some (.int .i64 max) := s7.two) | (go_at_call 17; refine (hbyte v7 _ v70 (by omega)).mono ?_; rintro e w8 ⟨u8, rfl, hu8, hb8⟩; have s8 := s7.grow hb8; have hS8 : w8.cell? ⟨T, 0, none⟩ = some (.slice a' fs.length c') ∧ w8.cell? ⟨T, 1, none⟩ = some (.int .i64 max) := s8.two; obtain ⟨_, _, y2, y3, y4, y5⟩ := s8.six; have g1 : ¬ 9223372036854775807 < p.size + u8.size := (by omega); have g2 : ¬ 9223372036854775807 < p.size + u8.size + q.size := (by omega); have g3 : p.size + u8.size ≤ 9223372036854775807 := (by omega); have g4 : p.size + u8.size + q.size ≤ 9223372036854775807 := (by omega))))
        all_goals
          have hD := s8.out hl HSM.out
          go_wp2
          exact bodyPost_ret (results_cell_tmp rfl _ _ w.heap.size #[.slice a' fs.length c', .int .i64 max] rfl hD.1) rfl ⟨fs, max, a', c', _, rfl, by simp [ByteArray.size_append]; omega, hD.2.1, hD.2.2⟩
      · have e1' : (v6 == 1) = false := by simpa using e1
        clear e1
        by_cases e2 : (v6 == 2) = true
        · have hpk := pick_st2 (w.heap.size + 1) (2000 + 1 + 1) 16 _ _ s6.drew'.st.self (by omega) (by decide)
          have s6d := s6.drew'
          clear s6 p0 p1 p2 p3 p4 p5
          go_wp2
          go_region_held3 (fun w' => w'.cell? ⟨T, 0, none⟩ = some (.slice a' fs.length c') ∧ w'.cell? ⟨T, 1, none⟩ = some (.int .i64 max)) (first | with_reducible assumption | with_reducible exact sA.two_set _ _) ((first | (go_at_call 16; refine hpk.mono ?_; clear hpk; rintro e w7 ⟨v7, rfl, v70, v71, k7, _⟩; have hwv : IntKind.i64.wrap (16 + v7) = 16 + v7 := (by rw [IntKind.wrap_i64]; omega); have s7 := s6d.step k7; have hS7 : w7.cell? ⟨T, 0, none⟩ = some (.slice a' fs.length c') ∧ w7.cell? ⟨T, 1, none⟩ = some (.int .i64 max) := s7.two) | (go_at_call 17; refine (hbyte (16 + v7) _ (by omega) (by omega)).mono ?_; clear hbyte; rintro e w8 ⟨u8, rfl, hu8, hb8⟩; have s8 := s7.grow hb8; have hS8 : w8.cell? ⟨T, 0, none⟩ = some (.slice a' fs.length c') ∧ w8.cell? ⟨T, 1, none⟩ = some (.int .i64 max) := s8.two; have g1 : ¬ 9223372036854775807 < t.size + u8.size := (by omega); have g3 : t.size + u8.size ≤ 9223372036854775807 := (by omega)) | (go_at_call 19; refine (l71Word_2 (w.heap.size + 1) (2000 + 1 + 1 + 1) _ _ s8.st.self (by omega)).mono ?_; rintro e w9 ⟨t9, rfl, ht9, k9⟩; have s9 := s8.step k9; have hS9 : w9.cell? ⟨T, 0, none⟩ = some (.slice a' fs.length c') ∧ w9.cell? ⟨T, 1, none⟩ = some (.int .i64 max) := s9.two) | (go_at_call 18; refine (wword t9 _ ht9).mono ?_; rintro e wA ⟨u9, rfl, hu9, hbA⟩; have sA := s9.grow hbA; have hSA : wA.cell? ⟨T, 0, none⟩ = some (.slice a' fs.length c') ∧ wA.cell? ⟨T, 1, none⟩ = some (.int .i64 max) := sA.two; obtain ⟨_, _, u2, u3, u4, u5⟩ := sA.six; have g2 : ¬ 9223372036854775807 < t.size + u8.size + u9.size := (by omega); have g4 : t.size + u8.size + u9.size ≤ 9223372036854775807 := (by omega))))
          all_goals
            have hD := sA.out hl HSM.out
            go_wp2
            exact bodyPost_ret (results_cell_tmp rfl _ _ w.heap.size #[.slice a' fs.length c', .int .i64 max] rfl hD.1) rfl ⟨fs, max, a', c', _, rfl, by simp [ByteArray.size_append]; omega, hD.2.1, hD.2.2⟩
        · have e2' : (v6 == 2) = false := by simpa using e2
          clear e2
          have hD := s6.outR hl HSM.out
          go_wp2_with (refine wpList_store_row rfl 25 _ _ rfl w.heap.size #[.slice a' fs.length c', .int .i64 max] rfl rfl 25 _ s6.res infoT2 rfl (by simp [Value.oneCell']) ?_)
          exact bodyPost_ret (results_cell_tmp rfl _ _ w.heap.size #[.slice a' fs.length c', .int .i64 max] rfl hD.1) rfl ⟨fs, max, a', c', _, rfl, by omega, hD.2.1, hD.2.2⟩
end Go.Proofs.YtbhoafiolalgaaaGreat
