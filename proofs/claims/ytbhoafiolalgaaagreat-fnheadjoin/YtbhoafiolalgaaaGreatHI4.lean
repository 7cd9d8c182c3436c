import Derived.Test.YtbhoafiolalgaaaGreatHI3
namespace Go.Proofs.YtbhoafiolalgaaaGreat
open Go.RowKit
set_option linter.unusedVariables false

theorem wrW_name (p : Nat) (f : Fd) (bits : Int) : wrW p f.n f.v bits = nameB p bits f ++ wrV f.v := by
  unfold wrW nameB
  by_cases hp : p = 0
  · subst hp; rw [if_pos (by rfl), if_neg (by omega)]
  · rw [if_neg (by simp only [Int.natCast_eq_zero]; exact hp), if_pos (by omega)]
theorem field_found {fs : List Fd} {f : Fd} {p : Nat} {b : Bool} (h : findV fs f = (p, b)) : fieldV fs p f.n f.v = (⟨f.n, f.v, false⟩, true) := by
  unfold fieldV
  by_cases hp : p = 0
  · subst hp; rw [if_pos (by rfl)]
  · obtain ⟨_, x, e1, _, e2, _⟩ := (find_at h).2 hp
    rw [if_neg (by simp only [Int.natCast_eq_zero]; exact hp), e1]
    dsimp only
    rw [e2]
/-- What writing answers: the table's row is its own. -/
def HwOwn (w : World) (r : (List Fd × Int) × ByteArray) (e : Ending) (w' : World) : Prop := ∃ v, e = .returned (.tuple #[.agg #[v, .int .i64 r.1.2], .string r.2]) ∧ w'.ownsRow w.heap.size 52 3 v r.1.1.length (cellsF r.1.1) ∧ Below w.heap.size w w'
set_option maxRecDepth 100000 in
set_option maxHeartbeats 8000000 in
theorem implHeadWrite (fs h : List Fd) (a ah : Option Addr) (n cap nh ch : Nat) (max : Int) (w : World) (hf : Fs w a n cap fs) (hbd : fsBd fs) (hn : n ≤ 1048576) (hfh : Fs w ah nh ch h) (hbh : fsBd h) (hnh : nh ≤ 1048576) :
    Calls Tryz.prog 10 #[.agg #[.slice a n cap, .int .i64 max], .slice ah nh ch] w (HwOwn w (hWr fs max h)) := by
  have hok := fun (w' : World) (h' : Fs w' a n cap fs) => implTableOk fs a n cap max w' h' hbd hn
  have hhd := fun (w' : World) (h' : Fs w' ah nh ch h) => implHeadOk h ah nh ch w' h' hbh hnh
  have HF : Hid (Fs w a n cap fs) := hf
  have HH : Hid (Fs w ah nh ch h) := hfh
  have hlen := hfh.len
  clear hf hfh hbd hbh
  have hb2 : Below w.heap.size w ((w.alloc (.cells #[.slice a n cap, .int .i64 max] 25)).alloc (.cells #[.slice none 0 0, .int .i64 0] 25)) := ((Below.refl _ _).alloc (Nat.le_refl _) _).alloc (by simp) _
  have hT : Hid (((w.alloc (.cells #[.slice a n cap, .int .i64 max] 25)).alloc (.cells #[.slice none 0 0, .int .i64 0] 25)).heap[w.heap.size]? = some (.cells #[.slice a n cap, .int .i64 max] 25 (0, 0))) := blkT (heap_alloc_last w _) _
  have hR : Hid (((w.alloc (.cells #[.slice a n cap, .int .i64 max] 25)).alloc (.cells #[.slice none 0 0, .int .i64 0] 25)).heap[w.heap.size + 1]? = some (.cells #[.slice none 0 0, .int .i64 0] 25 (0, 0))) := by
    have h := heap_alloc_last (w.alloc (.cells #[.slice a n cap, .int .i64 max] 25)) (.cells #[.slice none 0 0, .int .i64 0] 25)
    rw [World.size_alloc] at h
    exact h
  unfold HwOwn
  cases ht : tOk fs max with
  | false =>
    rw [ht] at hok
    rw [hWr_bad (by rw [ht]; rfl)]
    dsimp only
    clear ht hhd
    go_enter Tryz.func10, Tryz.ntmps10
    go_wp2_with (first | (go_at_call 22; refine (hok _ (HF.out.below hb2)).mono ?_; clear hok; rintro e w1 ⟨rfl, hb1⟩; have hR1 := blkH hb1 hR.out; obtain ⟨r0, r1⟩ := row2c hR1; have f0 := frz 0 hR1; have f1 := frz 1 hR1))
    have hbw1 := bt' hb2 hb1
    refine bodyPost_ret (results_cell_tmp rfl _ _ (w.heap.size + 1) #[.slice none 0 0, .int .i64 0] rfl (load_tab (set2_heap _ _ hR1))) rfl ⟨_, rfl, World.ownsRow_nil _ _ _ _, (hbw1.setCell (p := ⟨w.heap.size + 1, 0, none⟩) (by show w.heap.size ≤ w.heap.size + 1; omega) _).setCell (p := ⟨w.heap.size + 1, 1, none⟩) (by show w.heap.size ≤ w.heap.size + 1; omega) _⟩
  | true =>
    rw [ht] at hok
    cases hh : hOk h with
    | false =>
      rw [hh] at hhd
      rw [hWr_bad (by rw [hh, Bool.and_false])]
      dsimp only
      clear ht hh
      go_enter Tryz.func10, Tryz.ntmps10
      go_wp2_with (first | (go_at_call 22; refine (hok _ (HF.out.below hb2)).mono ?_; clear hok; rintro e w1 ⟨rfl, hb1⟩; have hbw1 := bt' hb2 hb1) | (go_at_call 11; refine (hhd _ (HH.out.below hbw1)).mono ?_; clear hhd; rintro e w2 ⟨rfl, hb2'⟩; have hR1 := blkH hb2' (blkH hb1 hR.out); obtain ⟨r0, r1⟩ := row2c hR1; have f0 := frz 0 hR1; have f1 := frz 1 hR1; have hbw2 := bt' hbw1 hb2'))
      refine bodyPost_ret (results_cell_tmp rfl _ _ (w.heap.size + 1) #[.slice none 0 0, .int .i64 0] rfl (load_tab (set2_heap _ _ hR1))) rfl ⟨_, rfl, World.ownsRow_nil _ _ _ _, (hbw2.setCell (p := ⟨w.heap.size + 1, 0, none⟩) (by show w.heap.size ≤ w.heap.size + 1; omega) _).setCell (p := ⟨w.heap.size + 1, 1, none⟩) (by show w.heap.size ≤ w.heap.size + 1; omega) _⟩
    | true =>
      rw [hh] at hhd
      rw [hWr_ok ht hh]
      dsimp only
      have hhp := hOk_parts hh
      have hcp := fun (w' : World) (h' : Fs w' a n cap fs) => copy_any fs a n cap max w' h' ht
      unfold TabAns at hcp
      dsimp only at hcp
      have hsz := fun k => wrH_size (h.take k) fs max
      go_enter Tryz.func10, Tryz.ntmps10
      go_wp2_with (first | (go_at_call 22; refine (hok _ (HF.out.below hb2)).mono ?_; clear hok; rintro e w1 ⟨rfl, hb1⟩; have hbw1 := bt' hb2 hb1) | (go_at_call 11; refine (hhd _ (HH.out.below hbw1)).mono ?_; clear hhd; rintro e w2 ⟨rfl, hb2'⟩; have hT2 := blkH hb2' (blkH hb1 hT.out); obtain ⟨t0, t1⟩ := row2c hT2; have hR2 := blkH hb2' (blkH hb1 hR.out); have hbw2 := bt' hbw1 hb2') | (go_at_call 23; refine (hcp _ (HF.out.below hbw2)).mono ?_; clear hcp; rintro e w3 ⟨v3, rfl, hown3, hb3⟩; obtain ⟨a3, c3, rfl⟩ := own_formT hown3))
      have hbw3 := bt' hbw2 hb3
      have hR3 := blkT (blkH hb3 hR2) (.cells #[.slice a3 fs.length c3, .int .i64 max] 25)
      have hL3 := heap_alloc_last w3 (.cells #[.slice a3 fs.length c3, .int .i64 max] 25)
      have hO3 := (own_baseT hown3 hbw2.size).alloc (.cells #[.slice a3 fs.length c3, .int .i64 max] 25)
      have hB3 := hbw3.alloc hbw3.size (.cells #[.slice a3 fs.length c3, .int .i64 max] 25)
      have hLN : w.heap.size + 1 < w3.heap.size := (Array.getElem?_eq_some_iff.1 (blkH hb3 hR2)).1
      obtain ⟨L, hL⟩ : ∃ L, w3.heap.size = L := ⟨_, rfl⟩
      rw [hL] at hL3 hLN
      have H0 : Hid (∃ (k : Nat) (a1 : Option Addr) (c1 : Nat), k ≤ nh ∧ Value.int .i64 0 = .int .i64 k ∧ Value.string ⟨#[]⟩ = .string (wrH fs max (h.take k)).2 ∧ (w3.alloc (.cells #[.slice a3 fs.length c3, .int .i64 max] 25)).heap[L]? = some (.cells #[.slice a1 (wrH fs max (h.take k)).1.length c1, .int .i64 max] 25 (0, 0)) ∧ (w3.alloc (.cells #[.slice a3 fs.length c3, .int .i64 max] 25)).heap[w.heap.size + 1]? = some (.cells #[.slice none 0 0, .int .i64 0] 25 (0, 0)) ∧ (w3.alloc (.cells #[.slice a3 fs.length c3, .int .i64 max] 25)).ownsRow w.heap.size 52 3 (.slice a1 (wrH fs max (h.take k)).1.length c1) (wrH fs max (h.take k)).1.length (cellsF (wrH fs max (h.take k)).1) ∧ Below w.heap.size w (w3.alloc (.cells #[.slice a3 fs.length c3, .int .i64 max] 25))) := ⟨0, a3, c3, by omega, rfl, rfl, hL3, hR3, hO3, hB3⟩
      rw [hL]
      clear hR3 hL3 hO3 hB3 hL hbw3 hown3 hb3 hR2 t0 t1 hT2 hbw2 hb2' hb1 hbw1
      go_loopw [7, 24] (fun out i wr => ∃ (k : Nat) (a1 : Option Addr) (c1 : Nat), k ≤ nh ∧ i = .int .i64 k ∧ out = .string (wrH fs max (h.take k)).2 ∧ wr.heap[L]? = some (.cells #[.slice a1 (wrH fs max (h.take k)).1.length c1, .int .i64 max] 25 (0, 0)) ∧ wr.heap[w.heap.size + 1]? = some (.cells #[.slice none 0 0, .int .i64 0] 25 (0, 0)) ∧ wr.ownsRow w.heap.size 52 3 (.slice a1 (wrH fs max (h.take k)).1.length c1) (wrH fs max (h.take k)).1.length (cellsF (wrH fs max (h.take k)).1) ∧ Below w.heap.size w wr) (fun _ i _ => nh - (intOf i).toNat)
      case atStart => exact H0.out
      case round =>
        clear H0
        obtain ⟨k, a1, c1, hk, rfl, rfl, hL, hR1, hown, hbel⟩ := hrel
        have htk : tOk (wrH fs max (h.take k)).1 max = true := wrH_ok _ _ ht (fun x hx => hhp.1 x (List.mem_of_mem_take hx))
        have hkz := hsz k
        have hkz2 : (wrH fs max (h.take k)).2.size ≤ 1000 := by rw [List.length_take] at hkz; omega
        obtain ⟨l0, l1⟩ := row2c hL
        by_cases hlt : k < nh
        · have hlt' : (k : Int) < nh := by omega
          have hk0 : (0 : Int) ≤ k := by omega
          have hkl : k < h.length := by omega
          have HST : Hid _ := wrH_step fs max h k hkl
          obtain ⟨gs, hgs⟩ : ∃ x, (wrH fs max (h.take k)).1 = x := ⟨_, rfl⟩
          obtain ⟨out, hout⟩ : ∃ x, (wrH fs max (h.take k)).2 = x := ⟨_, rfl⟩
          obtain ⟨gh, oh, rfl⟩ := HH.out.some' (by omega)
          obtain ⟨c0, c1', c2⟩ := (HH.out.below hbel).at k hkl
          have hfo := hhp.1 h[k] (List.getElem_mem hkl)
          obtain ⟨f, hff⟩ : ∃ f, h[k] = f := ⟨_, rfl⟩
          have HST2 : Hid (wrH fs max (h.take (k + 1)) = ((wrF gs max f).1, out ++ (wrF gs max f).2)) := by
            have := HST.out
            rw [hgs, hout, hff] at this
            exact this
          rw [hgs] at htk hown hL l0
          rw [hout] at hkz2
          rw [hout]
          rw [hff] at c0 c1' c2 hfo
          clear HST hgs hout hff hkz hsz
          have hsf := wrF_size gs max f
          have hfsz := fOk_size hfo
          have hn16 := tOk_len htk
          have hform := fun (w' : World) (h' : Fs w' a1 gs.length c1 gs) => formOf_any gs f a1 gs.length c1 max w' h' htk hfo
          have hBF := hbel.alloc hbel.size (.cells #[.string f.n, .string f.v, .bool f.q] 52)
          have hLF := blkT hL (.cells #[.string f.n, .string f.v, .bool f.q] 52)
          have hRF := blkT hR1 (.cells #[.string f.n, .string f.v, .bool f.q] 52)
          have hOF := hown.alloc (.cells #[.string f.n, .string f.v, .bool f.q] 52)
          have hFF1 := heap_alloc_last wr (.cells #[.string f.n, .string f.v, .bool f.q] 52)
          obtain ⟨y0, y1⟩ := row2c hLF
          obtain ⟨y2, y3, y4⟩ := row3c hFF1
          obtain ⟨⟨p, b⟩, hfd⟩ : ∃ r, findV gs f = r := ⟨_, rfl⟩
          have hpl := pl_le hfd
          unfold formOf at hform
          unfold wrF at HST2 hsf
          rw [hfd] at hform HST2 hsf
          dsimp only at hform HST2 hsf
          have hffd := field_found hfd
          unfold Fd.val at hform
          cases hq : f.q with
          | true =>
            rw [hq] at hform hBF hLF hRF hOF hFF1 y0 y1 y2 y3 y4 c2 HST2 hsf
            rw [if_pos rfl] at hform HST2 hsf
            dsimp only at HST2 hsf
            have hs2 := wrW_name p f 4
            rw [← hs2] at HST2 hsf
            obtain ⟨S2, hS2⟩ : ∃ x, wrW p f.n f.v 4 = x := ⟨_, rfl⟩
            rw [hS2] at HST2 hsf
            have hwr := fun w => wrNever p f.n f.v w ⟨by decide, by decide, by omega, by omega, by decide, by decide⟩ (by omega) (by omega)
            have hst := fun (w' : World) (h' : Fs w' a1 gs.length c1 gs) => step_never gs a1 gs.length c1 max p f.n f.v w' h' htk
            rw [hffd] at hst
            unfold Fd.val at hst
            dsimp only at hst
            rw [hS2] at hwr
            have hcat : out.size + S2.size ≤ 9223372036854775807 := by omega
            have hcat' : ¬ 9223372036854775807 < out.size + S2.size := by omega
            clear hL hR1 hown hbel
            go_wp2_with (first | (go_at_call 26; refine (hform _ (own_Fs hOF)).mono ?_; clear hform; rintro e w2 ⟨rfl, hb2'⟩; have hL2 := blkH hb2' hLF; have hR2 := blkH hb2' hRF; have hO2 := own_belowT hOF hb2'; have hB2 := bt' hBF hb2') | (go_at_call 122; refine (hwr _).mono ?_; clear hwr; rintro e w3 ⟨rfl, hb3⟩; have hL3 := blkH hb3 hL2; obtain ⟨z0, z1⟩ := row2c hL3; have hR3 := blkH hb3 hR2; have hO3 := own_belowT hO2 hb3; have hB3 := bt' hB2 hb3) | (go_at_call 25; refine (hst _ (own_Fs hO3)).mono ?_; clear hst; rintro e w4 ⟨rfl, hb4⟩; have hL4 := blkH hb4 hL3; obtain ⟨x0, x1⟩ := row2c hL4; have g0 := frz 0 hL4; have g1 := frz 1 hL4; have hR4 := blkH hb4 hR3; have hB4 := bt' hB3 hb4))
            have hO4 := own_belowT hO3 hb4
            have hne := not_rowT hL4 (by decide) hO4
            go_roundw
            case rel =>
              refine ⟨k + 1, a1, c1, by omega, by go_num, ?_, ?_, ?_, ?_, ?_⟩
              · rw [HST2.out]
              · rw [HST2.out]
                exact set2_heap _ _ hL4
              · exact setc_other 1 _ (setc_other 0 _ hR4 (by omega)) (by omega)
              · rw [HST2.out]
                exact own_setT (own_setT hO4 ⟨L, 0, none⟩ _ hne) ⟨L, 1, none⟩ _ hne
              · exact (hB4.setCell (p := ⟨L, 0, none⟩) (by show w.heap.size ≤ L; omega) _).setCell (p := ⟨L, 1, none⟩) (by show w.heap.size ≤ L; omega) _
            case measure => simp [intOf]; omega
          | false =>
            rw [hq] at hform hBF hLF hRF hOF hFF1 y0 y1 y2 y3 y4 c2 HST2 hsf
            rw [if_neg (by decide)] at hform HST2 hsf
            cases b with
            | true =>
              rw [if_pos rfl] at hform HST2 hsf
              dsimp only at HST2 hsf
              obtain ⟨S2, hS2⟩ : ∃ x, numS p 7 1 = x := ⟨_, rfl⟩
              rw [hS2] at HST2 hsf
              have hwr := fun w => wrFound p w ⟨by decide, by decide, by omega, by omega, by decide, by decide⟩
              have hst := fun (w' : World) (h' : Fs w' a1 gs.length c1 gs) => step_found gs a1 gs.length c1 max p w' h' htk
              unfold Fd.val at hst
              rw [hS2] at hwr
              have hcat : out.size + S2.size ≤ 9223372036854775807 := by omega
              have hcat' : ¬ 9223372036854775807 < out.size + S2.size := by omega
              clear hL hR1 hown hbel
              go_wp2_with (first | (go_at_call 26; refine (hform _ (own_Fs hOF)).mono ?_; clear hform; rintro e w2 ⟨rfl, hb2'⟩; have hL2 := blkH hb2' hLF; have hR2 := blkH hb2' hRF; have hO2 := own_belowT hOF hb2'; have hB2 := bt' hBF hb2') | (go_at_call 118; refine (hwr _).mono ?_; clear hwr; rintro e w3 ⟨rfl, hb3⟩; have hL3 := blkH hb3 hL2; obtain ⟨z0, z1⟩ := row2c hL3; have hR3 := blkH hb3 hR2; have hO3 := own_belowT hO2 hb3; have hB3 := bt' hB2 hb3) | (go_at_call 25; refine (hst _ (own_Fs hO3)).mono ?_; clear hst; rintro e w4 ⟨rfl, hb4⟩; have hL4 := blkH hb4 hL3; obtain ⟨x0, x1⟩ := row2c hL4; have g0 := frz 0 hL4; have g1 := frz 1 hL4; have hR4 := blkH hb4 hR3; have hB4 := bt' hB3 hb4))
              have hO4 := own_belowT hO3 hb4
              have hne := not_rowT hL4 (by decide) hO4
              go_roundw
              case rel =>
                refine ⟨k + 1, a1, c1, by omega, by go_num, ?_, ?_, ?_, ?_, ?_⟩
                · rw [HST2.out]
                · rw [HST2.out]
                  exact set2_heap _ _ hL4
                · exact setc_other 1 _ (setc_other 0 _ hR4 (by omega)) (by omega)
                · rw [HST2.out]
                  exact own_setT (own_setT hO4 ⟨L, 0, none⟩ _ hne) ⟨L, 1, none⟩ _ hne
                · exact (hB4.setCell (p := ⟨L, 0, none⟩) (by show w.heap.size ≤ L; omega) _).setCell (p := ⟨L, 1, none⟩) (by show w.heap.size ≤ L; omega) _
              case measure => simp [intOf]; omega
            | false =>
              rw [if_neg (by decide)] at hform HST2 hsf
              dsimp only at HST2 hsf
              have hs2 := wrW_name p f 6
              rw [← hs2] at HST2 hsf
              obtain ⟨S2, hS2⟩ : ∃ x, wrW p f.n f.v 6 = x := ⟨_, rfl⟩
              rw [hS2] at HST2 hsf
              obtain ⟨ys, hys⟩ : ∃ x, fitL max (⟨f.n, f.v, false⟩ :: gs) = x := ⟨_, rfl⟩
              have hav : addV gs max ⟨f.n, f.v, false⟩ = (ys, max) := by rw [addV_ok htk (fOk_q hfo false)]; dsimp only; rw [hys]
              rw [hys] at HST2
              have hwr := fun w => wrAdded p f.n f.v w ⟨by decide, by decide, by omega, by omega, by decide, by decide⟩ (by omega) (by omega)
              have hst := fun (w' : World) (h' : Fs w' a1 gs.length c1 gs) => step_added gs a1 gs.length c1 max p f.n f.v w' h' htk (by rw [hffd]; dsimp only; omega)
              rw [hffd] at hst
              dsimp only at hst
              rw [hav] at hst
              unfold Fd.val at hst
              dsimp only at hst
              rw [hS2] at hwr
              have hcat : out.size + S2.size ≤ 9223372036854775807 := by omega
              have hcat' : ¬ 9223372036854775807 < out.size + S2.size := by omega
              clear hL hR1 hown hbel
              go_wp2_with (first | (go_at_call 26; refine (hform _ (own_Fs hOF)).mono ?_; clear hform; rintro e w2 ⟨rfl, hb2'⟩; have hL2 := blkH hb2' hLF; have hR2 := blkH hb2' hRF; have hO2 := own_belowT hOF hb2'; have hB2 := bt' hBF hb2') | (go_at_call 120; refine (hwr _).mono ?_; clear hwr; rintro e w3 ⟨rfl, hb3⟩; have hL3 := blkH hb3 hL2; obtain ⟨z0, z1⟩ := row2c hL3; have hR3 := blkH hb3 hR2; have hO3 := own_belowT hO2 hb3; have hB3 := bt' hB2 hb3) | (go_at_call 25; refine (hst _ (own_Fs hO3)).mono ?_; clear hst; rintro e w4 ⟨a4, c4, rfl, hown4, hb4⟩; have hL4 := blkH hb4 hL3; obtain ⟨x0, x1⟩ := row2c hL4; have g0 := frz 0 hL4; have g1 := frz 1 hL4; have hR4 := blkH hb4 hR3; have hB4 := bt' hB3 hb4))
              have hO4 := own_baseT hown4 hB3.size
              have hne := not_rowT hL4 (by decide) hO4
              go_roundw
              case rel =>
                refine ⟨k + 1, a4, c4, by omega, by go_num, ?_, ?_, ?_, ?_, ?_⟩
                · rw [HST2.out]
                · rw [HST2.out]
                  exact set2_heap _ _ hL4
                · exact setc_other 1 _ (setc_other 0 _ hR4 (by omega)) (by omega)
                · rw [HST2.out]
                  exact own_setT (own_setT hO4 ⟨L, 0, none⟩ _ hne) ⟨L, 1, none⟩ _ hne
                · exact (hB4.setCell (p := ⟨L, 0, none⟩) (by show w.heap.size ≤ L; omega) _).setCell (p := ⟨L, 1, none⟩) (by show w.heap.size ≤ L; omega) _
              case measure => simp [intOf]; omega
        · have hke : h.take k = h := List.take_of_length_le (by omega)
          rw [hke] at hown hL l0
          rw [hke]
          obtain ⟨r0, r1⟩ := row2c hR1
          have f0 := frz 0 hR1
          have f1 := frz 1 hR1
          clear hsz htk
          go_wp2
          have hne := not_rowT hR1 (by decide) hown
          exact bodyPost_ret (results_cell_tmp rfl _ _ (w.heap.size + 1) #[.slice a1 (wrH fs max h).1.length c1, .int .i64 max] rfl (load_tab (set2_heap _ _ hR1))) rfl ⟨_, rfl, own_setT (own_setT hown ⟨w.heap.size + 1, 0, none⟩ _ hne) ⟨w.heap.size + 1, 1, none⟩ _ hne, (hbel.setCell (p := ⟨w.heap.size + 1, 0, none⟩) (by show w.heap.size ≤ w.heap.size + 1; omega) _).setCell (p := ⟨w.heap.size + 1, 1, none⟩) (by show w.heap.size ≤ w.heap.size + 1; omega) _⟩
end Go.Proofs.YtbhoafiolalgaaaGreat
