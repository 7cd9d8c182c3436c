import Derived.Test.YtbhoafiolalgaaaGreatBP
namespace Go.Proofs.YtbhoafiolalgaaaGreat
open Go.RowKit
set_option linter.unusedVariables false

theorem round_yes2 {fs ys : List Fd} {max : Int} {s : ByteArray} {acc : List Fd} {m : Fm} {u : Nat} {f : Fd} (hs : bytesL s ≠ []) (hl : acc.length < 6) (h1 : formL (bytesL s) = some (m, u)) (h2 : stepL fs max m = some (ys, f)) :
    goOn acc (rdH (6 - acc.length) fs max (bytesL s)) = goOn (acc ++ [f]) (rdH (6 - (acc ++ [f]).length) ys max (bytesL (restS s u))) := by
  rw [show 6 - acc.length = (6 - (acc ++ [f]).length) + 1 by rw [List.length_append]; simp; omega, rdH_cons hs, h1, Option.bind_some]
  dsimp only
  rw [h2, Option.bind_some]
  dsimp only
  rw [goOn_step, bytesL_rest, Int.toNat_natCast]
theorem round_no2 {fs : List Fd} {max : Int} {s : ByteArray} {acc : List Fd} (hs : bytesL s ≠ []) (h : formL (bytesL s) = none ∨ 6 ≤ acc.length ∨ ∃ m u, formL (bytesL s) = some (m, u) ∧ stepL fs max m = none) : goOn acc (rdH (6 - acc.length) fs max (bytesL s)) = none := by
  by_cases hl : 6 ≤ acc.length
  · rw [show 6 - acc.length = 0 by omega, rdH_full hs]; rfl
  · rw [show 6 - acc.length = (6 - acc.length - 1) + 1 by omega, rdH_cons hs]
    rcases h with h1 | h1 | ⟨m, u, h1, h2⟩
    · rw [h1]; rfl
    · omega
    · rw [h1, Option.bind_some]
      dsimp only
      rw [h2]; rfl
/-- What reading answers: both rows are its own, and apart. -/
def HrOwn (w : World) (r : (List Fd × Int) × List Fd × Bool) (e : Ending) (w' : World) : Prop := ∃ v u, e = .returned (.tuple #[.agg #[v, .int .i64 r.1.2], u, .bool r.2.2]) ∧ w'.ownsRow w.heap.size 52 3 v r.1.1.length (cellsF r.1.1) ∧ w'.ownsRow w.heap.size 52 3 u r.2.1.length (cellsF r.2.1) ∧ (∀ g, v.ownBlock = some g → u.ownBlock ≠ some g) ∧ Below w.heap.size w w'
structure RdOwn (w : World) (L : Nat) (max : Int) (R : Option (List Fd × List Fd)) (s1 o1 : Value) (wr : World) (gs acc : List Fd) (a1 : Option Addr) (n1 c1 : Nat) (ao : Option Addr) (no co : Nat) (s : ByteArray) : Prop where
  b : s1 = .string s
  o : o1 = .slice ao no co
  len : acc.length = no
  tlen : gs.length = n1
  tab : wr.heap[L]? = some (.cells #[.slice a1 n1 c1, .int .i64 max] 25 (0, 0))
  res : wr.heap[w.heap.size + 1]? = some (.cells #[.slice none 0 0, .int .i64 0] 25 (0, 0))
  ownT : wr.ownsRow w.heap.size 52 3 (.slice a1 n1 c1) n1 (cellsF gs)
  own : wr.ownsRow w.heap.size 52 3 (.slice ao no co) no (cellsF acc)
  apart : ∀ g, (Value.slice a1 n1 c1).ownBlock = some g → (Value.slice ao no co).ownBlock ≠ some g
  ok : tOk gs max = true
  sz : s.size ≤ 1000
  six : acc.length ≤ 6
  on : goOn acc (rdH (6 - acc.length) gs max (bytesL s)) = R
  bel : Below w.heap.size w wr
set_option maxRecDepth 100000 in
set_option maxHeartbeats 8000000 in
theorem implHeadRead (fs : List Fd) (a : Option Addr) (n cap : Nat) (max : Int) (s0 : ByteArray) (w : World) (hf : Fs w a n cap fs) (hbd : fsBd fs) (hn : n ≤ 1048576) (hs : s0.size ≤ maxLen) :
    Calls Tryz.prog 6 #[.agg #[.slice a n cap, .int .i64 max], .string s0] w (HrOwn w (hRd fs max s0)) := by
  have hok := fun (w' : World) (h' : Fs w' a n cap fs) => implTableOk fs a n cap max w' h' hbd hn
  unfold maxLen at hs
  have HF : Hid (Fs w a n cap fs) := hf
  clear hf hbd
  have hb2 : Below w.heap.size w ((w.alloc (.cells #[.slice a n cap, .int .i64 max] 25)).alloc (.cells #[.slice none 0 0, .int .i64 0] 25)) := ((Below.refl _ _).alloc (Nat.le_refl _) _).alloc (by simp) _
  have hT : Hid (((w.alloc (.cells #[.slice a n cap, .int .i64 max] 25)).alloc (.cells #[.slice none 0 0, .int .i64 0] 25)).heap[w.heap.size]? = some (.cells #[.slice a n cap, .int .i64 max] 25 (0, 0))) := blkT (heap_alloc_last w _) _
  have hR : Hid (((w.alloc (.cells #[.slice a n cap, .int .i64 max] 25)).alloc (.cells #[.slice none 0 0, .int .i64 0] 25)).heap[w.heap.size + 1]? = some (.cells #[.slice none 0 0, .int .i64 0] 25 (0, 0))) := by
    have h := heap_alloc_last (w.alloc (.cells #[.slice a n cap, .int .i64 max] 25)) (.cells #[.slice none 0 0, .int .i64 0] 25)
    rw [World.size_alloc] at h
    exact h
  by_cases hc : (tOk fs max && decide (s0.size ≤ 250)) = true
  · rw [Bool.and_eq_true, decide_eq_true_eq] at hc
    obtain ⟨ht, h250⟩ := hc
    rw [ht] at hok
    have hval : hRd fs max s0 = ansOf max (rdH 6 fs max (bytesL s0)) := by
      unfold hRd
      rw [ht, decide_eq_true h250]
      cases rdH 6 fs max (bytesL s0) <;> rfl
    rw [hval]
    obtain ⟨R, hRR⟩ : ∃ R, rdH 6 fs max (bytesL s0) = R := ⟨_, rfl⟩
    rw [hRR]
    have HRR : Hid (rdH 6 fs max (bytesL s0) = R) := hRR
    have h250' : ¬ (250 : Int) < s0.size := by omega
    have hcp := fun (w' : World) (h' : Fs w' a n cap fs) => copy_any fs a n cap max w' h' ht
    unfold TabAns at hcp
    dsimp only at hcp
    unfold HrOwn
    clear hval hRR
    go_enter Tryz.func6, Tryz.ntmps6
    go_wp2_with (first | (go_at_call 22; refine (hok _ (HF.out.below hb2)).mono ?_; clear hok; rintro e w1 ⟨rfl, hb1⟩; have hbw1 := bt' hb2 hb1; have hT1 := blkH hb1 hT.out; obtain ⟨t0, t1⟩ := row2c hT1; have hR1 := blkH hb1 hR.out) | (go_at_call 23; refine (hcp _ (HF.out.below hbw1)).mono ?_; clear hcp; rintro e w3 ⟨v3, rfl, hown3, hb3⟩; obtain ⟨a3, c3, rfl⟩ := own_formT hown3))
    have hbw3 := bt' hbw1 hb3
    have hR3 := blkT (blkH hb3 hR1) (.cells #[.slice a3 fs.length c3, .int .i64 max] 25)
    have hL3 := heap_alloc_last w3 (.cells #[.slice a3 fs.length c3, .int .i64 max] 25)
    have hO3 := (own_baseT hown3 hbw1.size).alloc (.cells #[.slice a3 fs.length c3, .int .i64 max] 25)
    have hB3 := hbw3.alloc hbw3.size (.cells #[.slice a3 fs.length c3, .int .i64 max] 25)
    have hLN : w.heap.size + 1 < w3.heap.size := (Array.getElem?_eq_some_iff.1 (blkH hb3 hR1)).1
    obtain ⟨L, hL⟩ : ∃ L, w3.heap.size = L := ⟨_, rfl⟩
    rw [hL] at hL3 hLN
    have H0 : Hid (RdOwn w L max R (.string s0) (.slice none 0 0) (w3.alloc (.cells #[.slice a3 fs.length c3, .int .i64 max] 25)) fs [] a3 fs.length c3 none 0 0 s0) := by
      refine ⟨rfl, rfl, rfl, rfl, hL3, hR3, hO3, World.ownsRow_nil _ _ _ _, (fun g h c => by cases c), ht, by omega, by simp, ?_, hB3⟩
      show goOn [] (rdH 6 fs max (bytesL s0)) = R
      rw [HRR.out]
      unfold goOn
      cases R <;> rfl
    rw [hL]
    clear hR3 hL3 hO3 hB3 hL hbw3 hown3 hb3 t0 t1 hT1 hR1 hb1 hbw1 ht h250 h250' HRR
    go_loopw [1, 8] (fun s1 o1 wr => ∃ gs acc a1 n1 c1 ao no co s, RdOwn w L max R s1 o1 wr gs acc a1 n1 c1 ao no co s) (fun s1 _ _ => lenS s1)
    case atStart => exact ⟨_, _, _, _, _, _, _, _, _, H0.out⟩
    case round =>
      clear H0
      obtain ⟨gs, acc, a1, n1, c1, ao, no, co, s, H⟩ := hrel
      obtain rfl := H.b
      obtain rfl := H.o
      have HI : Hid _ := H
      have hno := H.len
      have hsix := H.six
      have hsz := H.sz
      have htab := H.tab
      have hres := H.res
      obtain ⟨t0, t1⟩ := row2c htab
      obtain ⟨r0, r1⟩ := row2c hres
      have f0 := frz 0 hres
      have f1 := frz 1 hres
      by_cases hz : s.size = 0
      · have hem := isEmpty_true hz
        have hon : goOn acc (some (gs, [])) = R := by
          have h := H.on
          rwa [rdH_zero _ (by apply List.eq_nil_of_length_eq_zero; rw [bytesL_length]; exact hz)] at h
        have hRe : R = some (gs, acc) := by rw [← hon]; simp [goOn]
        subst hRe
        clear hon htab
        obtain rfl := H.tlen
        obtain rfl := hno
        go_wp2
        have hne := not_rowT HI.out.res (by decide) HI.out.own
        have hneT := not_rowT HI.out.res (by decide) HI.out.ownT
        exact bodyPost_ret (results_cell_tmp2 rfl _ _ (w.heap.size + 1) #[.slice a1 gs.length c1, .int .i64 max] rfl (load_tab (set2_heap _ _ HI.out.res))) rfl ⟨_, _, rfl, own_setT (own_setT HI.out.ownT ⟨w.heap.size + 1, 0, none⟩ _ hneT) ⟨w.heap.size + 1, 1, none⟩ _ hneT, own_setT (own_setT HI.out.own ⟨w.heap.size + 1, 0, none⟩ _ hne) ⟨w.heap.size + 1, 1, none⟩ _ hne, HI.out.apart, (HI.out.bel.setCell (p := ⟨w.heap.size + 1, 0, none⟩) (by show w.heap.size ≤ w.heap.size + 1; omega) _).setCell (p := ⟨w.heap.size + 1, 1, none⟩) (by show w.heap.size ≤ w.heap.size + 1; omega) _⟩
      · have hem := isEmpty_false (s := s) (by omega)
        have hbn := bytes_ne (s := s) (by omega)
        have hfr0 := fun w => formRead_any s w hsz (by omega)
        have HON := H.on
        have hno6 := @round_no2 gs max s acc hbn
        have hown0 := H.own
        have hownT0 := H.ownT
        have hap0 := H.apart
        have hok2 := H.ok
        have htl := H.tlen
        match hform : formL (bytesL s) with
        | none =>
          have hRn := hno6 (.inl hform)
          rw [HON] at hRn
          subst hRn
          have hfr : ∀ w, Calls Tryz.prog 24 #[.string s] w fun e w' => (∃ v u, e = .returned (.tuple #[v, .int .i64 u, .bool false])) ∧ Below w.heap.size w w' := fun w => (hfr0 w).mono (by
            rintro e w' ⟨⟨m, u, h, _⟩ | ⟨_, h⟩, hb⟩
            · rw [hform] at h; cases h
            · exact ⟨h, hb⟩)
          clear hfr0 hno6 HON hform H
          go_wp2_with (go_at_call 24; refine (hfr _).mono ?_; clear hfr; rintro e w1 ⟨⟨v1, u1, rfl⟩, hb1⟩; have hres1 := blkH hb1 hres; obtain ⟨z0, z1⟩ := row2c hres1; have zf0 := frz 0 hres1; have zf1 := frz 1 hres1)
          have hbb := bt' HI.out.bel hb1
          exact bodyPost_ret (results_cell_tmp2 rfl _ _ (w.heap.size + 1) #[.slice none 0 0, .int .i64 0] rfl (load_tab (set2_heap _ _ hres1))) rfl ⟨_, _, rfl, World.ownsRow_nil _ _ _ _, World.ownsRow_nil _ _ _ _, (fun g h c => by cases c), (hbb.setCell (p := ⟨w.heap.size + 1, 0, none⟩) (by show w.heap.size ≤ w.heap.size + 1; omega) _).setCell (p := ⟨w.heap.size + 1, 1, none⟩) (by show w.heap.size ≤ w.heap.size + 1; omega) _⟩
        | some (m, u) =>
          obtain ⟨hm, u1, u2, _⟩ := formL_more (bytesL_bd s) hform
          rw [bytesL_length] at u2
          have hfr : ∀ w, Calls Tryz.prog 24 #[.string s] w fun e w' => e = .returned (.tuple #[fmVal m, .int .i64 (u : Int), .bool true]) ∧ Below w.heap.size w w' := fun w => (hfr0 w).mono (by
            rintro e w' ⟨⟨m', u', h, he⟩ | ⟨h, _⟩, hb⟩
            · rw [hform] at h
              injection h with h
              injection h with h1 h2
              subst h1 h2
              exact ⟨he, hb⟩
            · rw [hform] at h; cases h)
          clear hfr0
          have hst0 := fun (w' : World) (h : Fs w' a1 n1 c1 gs) => step_any gs a1 n1 c1 max m w' h hok2 hm
          obtain ⟨FV, hFV⟩ : ∃ v, fmVal m = v := ⟨_, rfl⟩
          rw [hFV] at hfr hst0
          by_cases h6 : 6 ≤ acc.length
          · have hRn := hno6 (.inr (.inl h6))
            rw [HON] at hRn
            subst hRn
            have h6' : no = 6 := by omega
            subst h6'
            clear hno6 HON hform hst0 hFV H
            go_wp2_with (go_at_call 24; refine (hfr _).mono ?_; clear hfr; rintro e w1 ⟨rfl, hb1⟩; have hres1 := blkH hb1 hres; obtain ⟨z0, z1⟩ := row2c hres1; have zf0 := frz 0 hres1; have zf1 := frz 1 hres1)
            have hbb := bt' HI.out.bel hb1
            exact bodyPost_ret (results_cell_tmp2 rfl _ _ (w.heap.size + 1) #[.slice none 0 0, .int .i64 0] rfl (load_tab (set2_heap _ _ hres1))) rfl ⟨_, _, rfl, World.ownsRow_nil _ _ _ _, World.ownsRow_nil _ _ _ _, (fun g h c => by cases c), (hbb.setCell (p := ⟨w.heap.size + 1, 0, none⟩) (by show w.heap.size ≤ w.heap.size + 1; omega) _).setCell (p := ⟨w.heap.size + 1, 1, none⟩) (by show w.heap.size ≤ w.heap.size + 1; omega) _⟩
          · have hnb : ((no : Int) == 6) = false := by simp; omega
            have hnb2 : ¬ (no : Int) = 6 := by omega
            have hnb3 : ¬ no = 6 := by omega
            match hstep : stepL gs max m with
            | none =>
              have hRn := hno6 (.inr (.inr ⟨m, u, hform, hstep⟩))
              rw [HON] at hRn
              subst hRn
              have hst : ∀ (w' : World), Fs w' a1 n1 c1 gs → Calls Tryz.prog 25 #[.agg #[.slice a1 n1 c1, .int .i64 max], FV] w' fun e w2 => (∃ (a2 : Option Addr) (n2 c2 : Nat) (mx : Int) (f : Fd), e = .returned (.tuple #[.agg #[.slice a2 n2 c2, .int .i64 mx], .agg #[.string f.n, .string f.v, .bool f.q], .bool false])) ∧ Below w'.heap.size w' w2 := fun w' h => (hst0 w' h).mono (by
                rintro e w2 ⟨⟨ys, f, a2, n2, c2, h, _⟩ | ⟨_, h⟩, hb⟩
                · rw [hstep] at h; cases h
                · exact ⟨h, hb⟩)
              clear hno6 HON hform hstep hst0 hFV H
              go_wp2_with (first | (go_at_call 24; refine (hfr _).mono ?_; clear hfr; rintro e w1 ⟨rfl, hb1⟩; have htab1 := blkH hb1 htab; obtain ⟨y0, y1⟩ := row2c htab1; have hown1 := own_belowT hownT0 hb1) | (go_at_call 25; refine (hst _ (own_Fs hown1)).mono ?_; clear hst; rintro e w2 ⟨⟨a2, n2, c2, mx, f, rfl⟩, hb2'⟩; have hres1 := blkT (blkT (blkH hb2' (blkH hb1 hres)) (.cells #[.slice a2 n2 c2, .int .i64 mx] 25)) (.cells #[.string f.n, .string f.v, .bool f.q] 52); obtain ⟨z0, z1⟩ := row2c hres1; have zf0 := frz 0 hres1; have zf1 := frz 1 hres1))
              have hbb0 := bt' (bt' HI.out.bel hb1) hb2'
              have hbb1 := hbb0.alloc hbb0.size (.cells #[.slice a2 n2 c2, .int .i64 mx] 25)
              have hbb := hbb1.alloc hbb1.size (.cells #[.string f.n, .string f.v, .bool f.q] 52)
              exact bodyPost_ret (results_cell_tmp2 rfl _ _ (w.heap.size + 1) #[.slice none 0 0, .int .i64 0] rfl (load_tab (set2_heap _ _ hres1))) rfl ⟨_, _, rfl, World.ownsRow_nil _ _ _ _, World.ownsRow_nil _ _ _ _, (fun g h c => by cases c), (hbb.setCell (p := ⟨w.heap.size + 1, 0, none⟩) (by show w.heap.size ≤ w.heap.size + 1; omega) _).setCell (p := ⟨w.heap.size + 1, 1, none⟩) (by show w.heap.size ≤ w.heap.size + 1; omega) _⟩
            | some (ys, f) =>
              have HG := round_yes2 (acc := acc) hbn (by omega) hform hstep
              rw [HON] at HG
              have HGH : Hid _ := HG.symm
              obtain ⟨hgok, hfok⟩ := step_ok hok2 hm hstep
              have hst : ∀ (w' : World), w'.ownsRow w.heap.size 52 3 (.slice a1 n1 c1) n1 (cellsF gs) → w'.ownsRow w.heap.size 52 3 (.slice ao no co) no (cellsF acc) → w.heap.size ≤ w'.heap.size → Calls Tryz.prog 25 #[.agg #[.slice a1 n1 c1, .int .i64 max], FV] w' fun e w2 => ∃ a2 n2 c2, e = .returned (.tuple #[.agg #[.slice a2 n2 c2, .int .i64 max], .agg #[.string f.n, .string f.v, .bool f.q], .bool true]) ∧ ys.length = n2 ∧ w2.ownsRow w.heap.size 52 3 (.slice a2 n2 c2) n2 (cellsF ys) ∧ (∀ g, (Value.slice a2 n2 c2).ownBlock = some g → (Value.slice ao no co).ownBlock ≠ some g) ∧ Below w'.heap.size w' w2 := fun w' hT1 hH1 hle => (hst0 w' (own_Fs hT1)).mono (by
                rintro e w2 ⟨⟨ys', f', a2, n2, c2, h, he, hor⟩ | ⟨h, _⟩, hb⟩
                · rw [hstep] at h
                  injection h with h
                  injection h with h1 h2
                  subst h1 h2
                  rcases hor with ⟨⟨e1, e2, e3⟩, e4⟩ | ⟨e1, e2⟩
                  · subst e1 e2 e3 e4
                    exact ⟨_, _, _, he, htl, own_belowT hT1 hb, hap0, hb⟩
                  · refine ⟨a2, n2, c2, he, e1.symm, own_baseT e2 hle, ?_, hb⟩
                    intro g hg hc
                    have := (e2.lt g hg).1
                    have := (hH1.lt g hc).2
                    omega
                · rw [hstep] at h; cases h)
              clear HG HON hno6 hform hstep hst0 hFV H
              have hsl := fun W => slice_rest s (u : Int) (by omega) (by omega) W
              have hrs : (restS s (u : Int)).size = s.size - u := by rw [← bytesL_length, bytesL_rest, List.length_drop, bytesL_length]; omega
              go_upto_region 13 with (first | (go_at_call 24; refine (hfr _).mono ?_; clear hfr; rintro e w1 ⟨rfl, hb1⟩; have htab1 := blkH hb1 htab; obtain ⟨y0, y1⟩ := row2c htab1; have hownT1 := own_belowT hownT0 hb1; have hown1 := own_belowT hown0 hb1; have hbel1 := bt' HI.out.bel hb1) | (go_at_call 25; refine (hst _ hownT1 hown1 hbel1.size).mono ?_; clear hst; rintro e w2 ⟨a2, n2, c2, rfl, hn2, hT2, hap2, hb2'⟩; obtain ⟨z0, z1⟩ := row2c (blkT (blkT (blkH hb2' htab1) (.cells #[.slice a2 n2 c2, .int .i64 max] 25)) (.cells #[.string f.n, .string f.v, .bool f.q] 52)); have zf0 := frz 0 (blkT (blkT (blkH hb2' htab1) (.cells #[.slice a2 n2 c2, .int .i64 max] 25)) (.cells #[.string f.n, .string f.v, .bool f.q] 52)); have zf1 := frz 1 (blkT (blkT (blkH hb2' htab1) (.cells #[.slice a2 n2 c2, .int .i64 max] 25)) (.cells #[.string f.n, .string f.v, .bool f.q] 52))))
              have hbw2 := bt' hbel1 hb2'
              have hO2 := own_belowT hown1 hb2'
              have hLT := blkT (blkT (blkH hb2' htab1) (.cells #[.slice a2 n2 c2, .int .i64 max] 25)) (.cells #[.string f.n, .string f.v, .bool f.q] 52)
              have hRT := blkT (blkT (blkH hb2' (blkH hb1 hres)) (.cells #[.slice a2 n2 c2, .int .i64 max] 25)) (.cells #[.string f.n, .string f.v, .bool f.q] 52)
              have hFT : ((w2.alloc (.cells #[.slice a2 n2 c2, .int .i64 max] 25)).alloc (.cells #[.string f.n, .string f.v, .bool f.q] 52)).heap[w2.heap.size + 1]? = some (.cells #[.string f.n, .string f.v, .bool f.q] 52 (0, 0)) := by
                have h := heap_alloc_last (w2.alloc (.cells #[.slice a2 n2 c2, .int .i64 max] 25)) (.cells #[.string f.n, .string f.v, .bool f.q] 52)
                rw [World.size_alloc] at h
                exact h
              have hbA : Below w2.heap.size w2 ((w2.alloc (.cells #[.slice a2 n2 c2, .int .i64 max] 25)).alloc (.cells #[.string f.n, .string f.v, .bool f.q] 52)) := ((Below.refl _ _).alloc (Nat.le_refl _) _).alloc (by simp) _
              have hO3 := own_belowT hO2 hbA
              have hT3 := own_belowT hT2 hbA
              have hne3 := not_rowT hLT (by decide) hO3
              have hne4 := not_rowT hLT (by decide) hT3
              have hB3 := bt' hbw2 hbA
              have hLlt : L < w2.heap.size := (Array.getElem?_eq_some_iff.1 (blkH hb2' htab1)).1
              have hlt2 : ∀ g, (Value.slice a2 n2 c2).ownBlock = some g → g < w2.heap.size := fun g e => (hT2.lt g e).2
              have hzU : ((((w2.alloc (.cells #[.slice a2 n2 c2, .int .i64 max] 25)).alloc (.cells #[.string f.n, .string f.v, .bool f.q] 52)).setCell ⟨L, 0, none⟩ (.slice a2 n2 c2)).setCell ⟨L, 1, none⟩ (.int .i64 max)).heap.size ≥ w2.heap.size + 1 + 1 := by simp
              refine wabs (fun U => U.heap[L]? = some (.cells #[.slice a2 n2 c2, .int .i64 max] 25 (0, 0)) ∧ U.heap[w.heap.size + 1]? = some (.cells #[.slice none 0 0, .int .i64 0] 25 (0, 0)) ∧ U.heap[w2.heap.size + 1]? = some (.cells #[.string f.n, .string f.v, .bool f.q] 52 (0, 0)) ∧ U.ownsRow w.heap.size 52 3 (.slice a2 n2 c2) n2 (cellsF ys) ∧ U.ownsRow w.heap.size 52 3 (.slice ao no co) no (cellsF acc) ∧ Below w.heap.size w U ∧ U.heap.size ≥ w2.heap.size + 1 + 1) ⟨set2_heap _ _ hLT, setc_other 1 _ (setc_other 0 _ hRT (by omega)) (by omega), setc_other 1 _ (setc_other 0 _ hFT (by omega)) (by omega), own_setT (own_setT hT3 ⟨L, 0, none⟩ _ hne4) ⟨L, 1, none⟩ _ hne4, own_setT (own_setT hO3 ⟨L, 0, none⟩ _ hne3) ⟨L, 1, none⟩ _ hne3, (hB3.setCell (p := ⟨L, 0, none⟩) (by show w.heap.size ≤ L; omega) _).setCell (p := ⟨L, 1, none⟩) (by show w.heap.size ≤ L; omega) _, hzU⟩ ?_
              clear hLT hRT hFT hbA hO3 hT3 hne3 hne4 hB3 hzU hO2 hT2 hbw2 z0 z1 zf0 zf1 hb2' htab1 y0 y1 hownT1 hown1 hbel1 hb1
              rintro U ⟨hTU, hRU, hLU, hFU, hOU, hBU, hzU⟩
              obtain ⟨y0, y1, y2⟩ := row3c hLU
              have hbB : Below U.heap.size U (U.alloc (.cells #[.string f.n, .string f.v, .bool f.q] 52)) := (Below.refl _ _).alloc (Nat.le_refl _) _
              have hTV := blkH hbB hTU
              have hRV := blkH hbB hRU
              have hFV := own_belowT hFU hbB
              have hOV := own_belowT hOU hbB
              have hBV := bt' hBU hbB
              have hneT := not_rowT hTV (by decide) hOV
              have hneR := not_rowT hRV (by decide) hOV
              have hFF : Fs (U.alloc (.cells #[.string f.n, .string f.v, .bool f.q] 52)) (some ⟨U.heap.size, 0, none⟩) 1 1 [f] := own_Fs (fs := [f]) (own_one3 U U.heap.size 52 _ _ _ (Nat.le_refl _))
              clear t0 t1 r0 r1 f0 f1 htab hres
              go_wp2_with (at_builtin; refine wpList_appLies _ rfl _ _ rfl w.heap.size (.slice ao no co) no (cellsF acc) rfl hOV U.heap.size 0 1 1 [f] rfl hFF (by decide) (by omega) hBV.size ?_; intro g c w6 hown6 hgrow6 hat6)
              go_roundw
              case rel =>
                have hB6 : Below w.heap.size w w6 := hBV.grown hgrow6 hBV.size (fun q hq => (hOV.lt q hq).1)
                have hT6 : w6.ownsRow w.heap.size 52 3 (.slice a2 n2 c2) n2 (cellsF ys) := hFV.kept hgrow6 (by
                  cases hb : (Value.slice a2 n2 c2).ownBlock with
                  | none => exact .inl rfl
                  | some q => exact .inr (fun e => hap2 q hb e.symm))
                refine ⟨ys, acc ++ [f], a2, n2, c2, some ⟨g, 0, none⟩, no + 1, c, restS s (u : Int), ?_⟩
                refine ⟨rfl, rfl, by rw [List.length_append, hno]; rfl, hn2, (hgrow6.block _ (Array.getElem?_eq_some_iff.1 hTV).1 hneT).trans hTV, (hgrow6.block _ (Array.getElem?_eq_some_iff.1 hRV).1 hneR).trans hRV, hT6, by rw [cellsF_append]; exact hown6, ?_, hgok, by omega, by rw [List.length_append]; simp; omega, HGH.out, hB6⟩
                intro g' e hc
                have e2 : g = g' := by injection hc
                rcases hat6 with h | h
                · exact hap2 g' e (by rw [h, e2])
                · have := hlt2 g' e
                  simp at h
                  omega
              case measure => simp [lenS]; omega
  · have hc' : (tOk fs max && decide (s0.size ≤ 250)) = false := by simpa using hc
    rw [hRd_bad hc']
    unfold HrOwn
    dsimp only
    cases ht : tOk fs max with
    | false =>
      rw [ht] at hok
      clear ht hc hc'
      go_enter Tryz.func6, Tryz.ntmps6
      go_wp2_with (go_at_call 22; refine (hok _ (HF.out.below hb2)).mono ?_; clear hok; rintro e w1 ⟨rfl, hb1⟩; have hres1 := blkH hb1 hR.out; obtain ⟨r0, r1⟩ := row2c hres1; have f0 := frz 0 hres1; have f1 := frz 1 hres1)
      have hbb := bt' hb2 hb1
      exact bodyPost_ret (results_cell_tmp2 rfl _ _ (w.heap.size + 1) #[.slice none 0 0, .int .i64 0] rfl (load_tab (set2_heap _ _ hres1))) rfl ⟨_, _, rfl, World.ownsRow_nil _ _ _ _, World.ownsRow_nil _ _ _ _, (fun g h c => by cases c), (hbb.setCell (p := ⟨w.heap.size + 1, 0, none⟩) (by show w.heap.size ≤ w.heap.size + 1; omega) _).setCell (p := ⟨w.heap.size + 1, 1, none⟩) (by show w.heap.size ≤ w.heap.size + 1; omega) _⟩
    | true =>
      rw [ht] at hok
      rw [ht, Bool.true_and, decide_eq_false_iff_not] at hc'
      have h250' : (250 : Int) < s0.size := by omega
      clear ht hc
      go_enter Tryz.func6, Tryz.ntmps6
      go_wp2_with (go_at_call 22; refine (hok _ (HF.out.below hb2)).mono ?_; clear hok; rintro e w1 ⟨rfl, hb1⟩; have hres1 := blkH hb1 hR.out; obtain ⟨r0, r1⟩ := row2c hres1; have f0 := frz 0 hres1; have f1 := frz 1 hres1)
      have hbb := bt' hb2 hb1
      exact bodyPost_ret (results_cell_tmp2 rfl _ _ (w.heap.size + 1) #[.slice none 0 0, .int .i64 0] rfl (load_tab (set2_heap _ _ hres1))) rfl ⟨_, _, rfl, World.ownsRow_nil _ _ _ _, World.ownsRow_nil _ _ _ _, (fun g h c => by cases c), (hbb.setCell (p := ⟨w.heap.size + 1, 0, none⟩) (by show w.heap.size ≤ w.heap.size + 1; omega) _).setCell (p := ⟨w.heap.size + 1, 1, none⟩) (by show w.heap.size ≤ w.heap.size + 1; omega) _⟩
end Go.Proofs.YtbhoafiolalgaaaGreat
