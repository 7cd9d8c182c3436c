import Derived.Test.YtafhpcgdlmkbeadTL1
import Derived.Test.YtafhpcgdlmkbeadTI4
import Derived.Test.YtafhpcgdlmkbeadTDraw3
import Derived.Deep.RegionHeld3
namespace Go.Proofs.Ytafhpcgdlmkbead
open Go.RowKit
set_option linter.unusedVariables false

set_option maxRecDepth 100000 in
set_option maxHeartbeats 2000000 in
theorem fnTableSize_walk (a0 : Option Addr) (len0 cap0 : Nat) (z0 : List Int) (a1 : Option Addr) (len1 cap1 : Nat) (z1 : List Int) (w : World) (w0 : Row w a0 len0 cap0 z0) (w1 : Row w a1 len1 cap1 z1) :
    Calls Try.prog 6 #[.slice a0 len0 cap0, .slice a1 len1 cap1] w fun e w' => e = .returned (.bool true) ∧ Below w.heap.size w w' := by
  by_cases c0 : (1048576 : Int) < len0
  · clear w0 w1
    go_enter Try.func6, Try.ntmps6
    go_wp2
    go_ret
    exact ⟨rfl, Below.refl _ _⟩
  by_cases c1 : (1048576 : Int) < len1
  · clear w0 w1
    go_enter Try.func6, Try.ntmps6
    go_wp2
    go_ret
    exact ⟨rfl, Below.refl _ _⟩
  have R0 : Hid (Row w a0 len0 cap0 z0) := w0
  have R1 : Hid (Row w a1 len1 cap1 z1) := w1
  clear w0 w1
  go_enter Try.func6, Try.ntmps6
  go_wp2_with fail
  refine (drawTableSize _ _ _ _ _ R0.out).mono ?_
  rintro e wa ⟨fs, max, a', c', rfl, ⟨hl, hsm, m0, m1, hfs⟩, hba⟩
  have hbA : Below wa.heap.size wa (wa.alloc (.cells #[.slice a' fs.length c', .int .i64 max] 35)) := (Below.refl _ _).alloc (Nat.le_refl _) _
  have hT : (wa.alloc (.cells #[.slice a' fs.length c', .int .i64 max] 35)).heap[wa.heap.size]? = some (.cells #[.slice a' fs.length c', .int .i64 max] 35 (0, 0)) := heap_alloc_last wa _
  have hBa := bt' hba hbA
  have hFa := hfs.below hbA
  have hoI := fun (w' : World) (h : Fs w' a' fs.length c' fs) => implTableSize fs a' fs.length c' max w' h hsm.bd (by omega)
  have hoS := fun (w' : World) (h : Fs w' a' fs.length c' fs) => specTableSize fs a' fs.length c' max w' h hsm.bd (by omega)
  have hoK := fun (w' : World) (h : Fs w' a' fs.length c' fs) => specTableOk fs a' fs.length c' max w' h hsm.bd (by omega)
  have HSM : Hid (fsSm fs) := hsm
  have HFA : Hid _ := hFa
  cases ht : tOk fs max with
  | false =>
    rw [ht, if_neg (by decide)] at hoI hoS
    rw [ht] at hoK
    clear ht hsm hFa
    go_wp2_with (first | (go_at_call 19; refine (hoI _ HFA.out).mono ?_; clear hoI; rintro e wb ⟨rfl, hbb⟩; have hTb := blkB hbb hT; have HFb := HFA.out.below hbb; have hBb := bt' hBa hbb; obtain ⟨y0, y1⟩ := row2c hTb) | (go_at_call 20; refine (hoS _ HFb).mono ?_; rintro e wc ⟨rfl, hbc⟩; have hTc := blkB hbc hTb; have HFc := HFb.below hbc; have hBc := bt' hBb hbc; obtain ⟨z0, z1⟩ := row2c hTc; clear HFb) | (go_at_call 21; refine (hoK _ HFc).mono ?_; clear hoK; rintro e wd ⟨rfl, hbd⟩; have hTd := blkB hbd hTc; have HFd := HFc.below hbd; have hBd := bt' hBc hbd; obtain ⟨x0, x1⟩ := row2c hTd) | (go_at_call 20; refine (hoS _ HFd).mono ?_; rintro e we ⟨rfl, hbe⟩))
    go_ret
    exact ⟨rfl, bt' hBd hbe⟩
  | true =>
    rw [ht, if_pos rfl] at hoI hoS
    rw [ht] at hoK
    have HT : Hid (tOk fs max = true) := ht
    obtain ⟨_, x0, x1, x2⟩ := tOk_parts ht
    have sn := fSum_nonneg fs
    clear ht hsm hFa
    obtain ⟨S, hS⟩ : ∃ S, fSum fs = S := ⟨_, rfl⟩
    rw [hS] at hoI hoS x2 sn
    have HS : Hid (fSum fs = S) := hS
    clear hS
    go_wp2_with (first | (go_at_call 19; refine (hoI _ HFA.out).mono ?_; clear hoI; rintro e wb ⟨rfl, hbb⟩; have hTb := blkB hbb hT; have HFb := HFA.out.below hbb; have hBb := bt' hBa hbb; obtain ⟨y0, y1⟩ := row2c hTb) | (go_at_call 20; refine (hoS _ HFb).mono ?_; rintro e wc ⟨rfl, hbc⟩; have hTc := blkB hbc hTb; have HFc := HFb.below hbc; have hBc := bt' hBb hbc; obtain ⟨z0, z1⟩ := row2c hTc; clear HFb) | (go_at_call 21; refine (hoK _ HFc).mono ?_; clear hoK; rintro e wd ⟨rfl, hbd⟩; have hTd := blkB hbd hTc; have HFd := HFc.below hbd; have hBd := bt' hBc hbd))
    have HFD : Hid _ := HFd
    have HTD : Hid _ := hTd
    clear hoS hBa hBb hBc hTb hTc HFd HFc HFA hT y0 y1 z0 z1 hbA hbb hbc hbd hba hTd hfs
    go_loopw [7, 8] (fun s i wr => ∃ k : Nat, k ≤ fs.length ∧ i = .int .i64 k ∧ s = .int .i64 (fSum (fs.take k)) ∧ Below wd.heap.size wd wr) (fun _ i _ => fs.length - (intOf i).toNat)
    case atStart => exact ⟨0, by omega, rfl, rfl, Below.refl _ _⟩
    case round =>
      obtain ⟨k, hk, rfl, rfl, hbel⟩ := hrel
      have hsb := fSum_bd (fs.take k) (fun f hf => HSM.out.bd f (List.mem_of_mem_take hf))
      rw [List.length_take] at hsb
      obtain ⟨s0, s1⟩ := hsb
      have s2 : fSum (fs.take k) ≤ 2097156 * 22 := by omega
      clear s1
      have hTr := blkB hbel HTD.out
      obtain ⟨t0, t1⟩ := row2c hTr
      have hBr := bt' hBd hbel
      by_cases hlt : k < fs.length
      · have hlt' : (k : Int) < fs.length := by omega
        have hk0 : (0 : Int) ≤ k := by omega
        obtain ⟨g, o, rfl⟩ := HFD.out.some' (by omega)
        obtain ⟨f, hff⟩ : ∃ f, fs[k] = f := ⟨_, rfl⟩
        obtain ⟨c0, c1, c2⟩ := (HFD.out.below hbel).at k hlt
        rw [hff] at c0 c1 c2
        have hfb := HSM.out f (by rw [← hff]; exact List.getElem_mem hlt)
        have HS2 : Hid (fSum (fs.take (k + 1)) = fSum (fs.take k) + fLen f) := by
          show fSum (fs.take (k + 1)) = fSum (fs.take k) + fLen f
          rw [List.take_succ_eq_append_getElem hlt, fSum_snoc, hff]
        have l0 : 0 ≤ fLen f := by unfold fLen; omega
        have l1 : fLen f ≤ 2097156 := by unfold fLen; omega
        have hone := fun w => lkOne_any f w (by omega) (by omega)
        unfold Fd.val at hone
        clear hff hfb
        go_wp2_with (go_at_call 22; refine (hone _).mono ?_; rintro e w1 ⟨rfl, hb1⟩)
        go_roundw
        case rel => exact ⟨k + 1, by omega, by go_num, by rw [HS2.out], bt' hbel hb1⟩
        case measure => simp [intOf]; omega
      · have hall : fs.take k = fs := List.take_of_length_le (by omega)
        rw [hall, HS.out]
        clear hall s0 s2
        by_cases hz : fs.length = 0
        · have hS0 : S = 0 := by rw [← HS.out, List.eq_nil_of_length_eq_zero hz]; rfl
          subst hS0
          have hz' : (fs.length : Int) = 0 := by omega
          rw [hz] at t0
          go_wp2
          go_ret
          exact ⟨rfl, hBr⟩
        · have hz1 : ((fs.length : Int) == 0) = false := by rw [beq_eq_false_iff_ne]; omega
          have hz2 : ¬ (fs.length : Int) = 0 := by omega
          obtain ⟨m, hm⟩ : ∃ m : Nat, (len1 : Int) % (fs.length : Int) = m := ⟨len1 % fs.length, (Int.natCast_emod len1 fs.length).symm⟩
          have hml : m < fs.length := by have h1 := Int.emod_lt_of_pos (len1 : Int) (show 0 < (fs.length : Int) by omega); rw [hm] at h1; omega
          obtain ⟨g, o, rfl⟩ := HFD.out.some' (by omega)
          have hFr := HFD.out.below hbel
          have hbr : Below wr.heap.size wr wr.drew := (Below.refl _ _).drew
          have hle := hFr.le
          obtain ⟨g2, o2, hsl, hfd⟩ := hFr.from (m + 1) ((m : Int) + 1) (by omega) (by omega)
          have HFD2 : Hid _ := hfd
          clear hfd
          have p1 : (m : Int) ≤ c' := by omega
          have p2 : (m : Int) + 1 ≤ fs.length := by omega
          have p3 : (0 : Int) ≤ m := by omega
          have p4 : IntKind.i64.wrap ((m : Int) + 1) = (m : Int) + 1 := wraps_i64_40 _ (by omega) (by omega)
          have hmx : Try.prog.follows .mixedOrders = true := by kernel_rfl
          have hOf : ∀ w', Below wr.heap.size wr w' → (w'.cell? ⟨wa.heap.size, 0, none⟩ = some (.slice (some ⟨g, o, none⟩) fs.length c') ∧ w'.cell? ⟨wa.heap.size, 1, none⟩ = some (.int .i64 max) ∧ Below wr.heap.size wr w') := fun w' hb => ⟨keepc hb t0, keepc hb t1, hb⟩
          have hAl : ∀ w' o', ((w'.cell? ⟨wa.heap.size, 0, none⟩ = some (.slice (some ⟨g, o, none⟩) fs.length c') ∧ w'.cell? ⟨wa.heap.size, 1, none⟩ = some (.int .i64 max) ∧ Below wr.heap.size wr w')) → ((w'.alloc o').cell? ⟨wa.heap.size, 0, none⟩ = some (.slice (some ⟨g, o, none⟩) fs.length c') ∧ (w'.alloc o').cell? ⟨wa.heap.size, 1, none⟩ = some (.int .i64 max) ∧ Below wr.heap.size wr (w'.alloc o')) := fun w' o' h => hOf _ (h.2.2.alloc h.2.2.size _)
          have HA0 : Hid (Below wr.heap.size wr (wr.drew.alloc (.cells #[] 29))) := show Below wr.heap.size wr (wr.drew.alloc (.cells #[] 29)) from hbr.alloc hbr.size _
          have HC0 : Hid (Below wr.heap.size wr ((wr.drew.alloc (.cells #[] 29)).alloc (.cells #[.slice none 0 0, .int .i64 0] 35))) := show Below wr.heap.size wr ((wr.drew.alloc (.cells #[] 29)).alloc (.cells #[.slice none 0 0, .int .i64 0] 35)) from HA0.out.alloc HA0.out.size _
          have HD0 : Hid (Below wr.heap.size wr ((wr.drew.alloc (.cells #[.slice none 0 0, .int .i64 0] 35)).alloc (.cells #[] 29))) := show Below wr.heap.size wr ((wr.drew.alloc (.cells #[.slice none 0 0, .int .i64 0] 35)).alloc (.cells #[] 29)) from (hbr.alloc hbr.size _).alloc (hbr.alloc hbr.size _).size _
          have hz0 : Hid ((wr.drew.alloc (.cells #[] 29)).ownsRow wr.heap.size 29 3 (.slice (some ⟨wr.heap.size, 0, none⟩) 0 0) 0 []) := own_zero3 wr.drew 29
          have hzc : Hid (((wr.drew.alloc (.cells #[] 29)).alloc (.cells #[.slice none 0 0, .int .i64 0] 35)).ownsRow wr.heap.size 29 3 (.slice (some ⟨wr.heap.size, 0, none⟩) 0 0) 0 []) := hz0.out.alloc _
          have hzd : Hid (((wr.drew.alloc (.cells #[.slice none 0 0, .int .i64 0] 35)).alloc (.cells #[] 29)).ownsRow wr.heap.size 29 3 (.slice (some ⟨wr.heap.size + 1, 0, none⟩) 0 0) 0 []) := own_baseT (by have h := own_zero3 (wr.drew.alloc (.cells #[.slice none 0 0, .int .i64 0] 35)) 29; simpa using h) (show wr.heap.size ≤ wr.heap.size + 1 by omega)
          have hLc : Hid (((wr.drew.alloc (.cells #[] 29)).alloc (.cells #[.slice none 0 0, .int .i64 0] 35)).heap[wr.heap.size + 1]? = some (.cells #[.slice none 0 0, .int .i64 0] 35 (0, 0))) := by
            have h := heap_alloc_last (wr.drew.alloc (.cells #[] 29)) (.cells #[.slice none 0 0, .int .i64 0] 35)
            rw [World.size_alloc] at h
            exact h
          have hLd : Hid (((wr.drew.alloc (.cells #[.slice none 0 0, .int .i64 0] 35)).alloc (.cells #[] 29)).heap[wr.heap.size]? = some (.cells #[.slice none 0 0, .int .i64 0] 35 (0, 0))) := blkT (heap_alloc_last wr.drew (.cells #[.slice none 0 0, .int .i64 0] 35)) _
          go_wp2
          go_region_held3 (fun w' => (w'.cell? ⟨wa.heap.size, 0, none⟩ = some (.slice (some ⟨g, o, none⟩) fs.length c') ∧ w'.cell? ⟨wa.heap.size, 1, none⟩ = some (.int .i64 max) ∧ Below wr.heap.size wr w')) (first | exact hOf _ hbr | exact hAl _ _ (by assumption) | exact hOf _ hB5 | exact hOf _ hB4 | exact hOf _ ((hB5.setCell (p := ⟨_, 0, none⟩) hLb _).setCell (p := ⟨_, 1, none⟩) hLb _) | exact hOf _ (hB5.alloc hB5.size _)) ((first | (refine step_appFs _ (by rfl) _ _ (by rfl) wr.heap.size _ _ _ (by rfl) hz0.out (some ⟨g, o, none⟩) m c' (fs.take m) (by rfl) ((hFr.below HA0.out).take m (by omega)) (by omega) HA0.out.size ?_; intro v4 w4 hown4 hgrow4; rw [Nat.zero_add, List.nil_append] at hown4; obtain ⟨a4, c4, rfl⟩ := own_formT hown4; have hB4 : Below wr.heap.size wr w4 := HA0.out.grown hgrow4 HA0.out.size (fun q hq => (hz0.out.lt q hq).1)) | (refine step_appFs _ (by rfl) _ _ (by rfl) wr.heap.size _ _ _ (by rfl) hzc.out (some ⟨g, o, none⟩) m c' (fs.take m) (by rfl) ((hFr.below HC0.out).take m (by omega)) (by omega) HC0.out.size ?_; intro v4 w4 hown4 hgrow4; rw [Nat.zero_add, List.nil_append] at hown4; obtain ⟨a4, c4, rfl⟩ := own_formT hown4; have hB4 : Below wr.heap.size wr w4 := HC0.out.grown hgrow4 HC0.out.size (fun q hq => (hzc.out.lt q hq).1); have hL4 := (hgrow4.block _ (Array.getElem?_eq_some_iff.1 hLc.out).1 (not_rowT hLc.out (by decide) hzc.out)).trans hLc.out; have hLb : wr.heap.size ≤ wr.heap.size + 1 := Nat.le_succ _) | (refine step_appFs _ (by rfl) _ _ (by rfl) wr.heap.size _ _ _ (by rfl) hzd.out (some ⟨g, o, none⟩) m c' (fs.take m) (by rfl) ((hFr.below HD0.out).take m (by omega)) (by omega) HD0.out.size ?_; intro v4 w4 hown4 hgrow4; rw [Nat.zero_add, List.nil_append] at hown4; obtain ⟨a4, c4, rfl⟩ := own_formT hown4; have hB4 : Below wr.heap.size wr w4 := HD0.out.grown hgrow4 HD0.out.size (fun q hq => (hzd.out.lt q hq).1); have hL4 := (hgrow4.block _ (Array.getElem?_eq_some_iff.1 hLd.out).1 (not_rowT hLd.out (by decide) hzd.out)).trans hLd.out; have hLb : wr.heap.size ≤ wr.heap.size := Nat.le_refl _) | (refine step_appFs _ (by rfl) _ _ (by rfl) wr.heap.size _ _ _ (by rfl) hown4 (some ⟨g2, o2, none⟩) (fs.length - (m + 1)) (c' - (m + 1)) (fs.drop (m + 1)) (by rfl) (HFD2.out _ (hFr.below hB4)) (by omega) hB4.size ?_; intro v5 w5 hown5 hgrow5; obtain ⟨a5, c5, rfl⟩ := own_formT hown5; have hB5 : Below wr.heap.size wr w5 := hB4.grown hgrow5 hB4.size (fun q hq => (hown4.lt q hq).1); have hL5 := (hgrow5.block _ (Array.getElem?_eq_some_iff.1 hL4).1 (not_rowT hL4 (by decide) hown4)).trans hL4; obtain ⟨l0, l1⟩ := row2c hL5; have q0 := frz3 0 hL5; have q1 := frz3 1 hL5) | (refine step_appFs _ (by rfl) _ _ (by rfl) wr.heap.size _ _ _ (by rfl) hown4 (some ⟨g2, o2, none⟩) (fs.length - (m + 1)) (c' - (m + 1)) (fs.drop (m + 1)) (by rfl) (HFD2.out _ (hFr.below hB4)) (by omega) hB4.size ?_; intro v5 w5 hown5 hgrow5; obtain ⟨a5, c5, rfl⟩ := own_formT hown5; have hB5 : Below wr.heap.size wr w5 := hB4.grown hgrow5 hB4.size (fun q hq => (hown4.lt q hq).1)) | (refine step_appFs _ (by rfl) _ _ (by rfl) wr.heap.size _ _ _ (by rfl) (hown4.alloc (.cells #[.slice none 0 0, .int .i64 0] 35)) (some ⟨g2, o2, none⟩) (fs.length - (m + 1)) (c' - (m + 1)) (fs.drop (m + 1)) (by rfl) (HFD2.out _ (hFr.below (hB4.alloc hB4.size (.cells #[.slice none 0 0, .int .i64 0] 35)))) (by omega) (hB4.alloc hB4.size (.cells #[.slice none 0 0, .int .i64 0] 35)).size ?_; intro v5 w5 hown5 hgrow5; obtain ⟨a5, c5, rfl⟩ := own_formT hown5; have hB5 : Below wr.heap.size wr w5 := (hB4.alloc hB4.size (.cells #[.slice none 0 0, .int .i64 0] 35)).grown hgrow5 (hB4.alloc hB4.size (.cells #[.slice none 0 0, .int .i64 0] 35)).size (fun q hq => ((hown4.alloc (.cells #[.slice none 0 0, .int .i64 0] 35)).lt q hq).1); have hL5 := (hgrow5.block _ (Array.getElem?_eq_some_iff.1 (heap_alloc_last w4 (.cells #[.slice none 0 0, .int .i64 0] 35))).1 (not_rowT (heap_alloc_last w4 (.cells #[.slice none 0 0, .int .i64 0] 35)) (by decide) (hown4.alloc (.cells #[.slice none 0 0, .int .i64 0] 35)))).trans (heap_alloc_last w4 (.cells #[.slice none 0 0, .int .i64 0] 35)); have hLb := hB4.size; obtain ⟨l0, l1⟩ := row2c hL5; have q0 := frz3 0 hL5; have q1 := frz3 1 hL5)))
          all_goals
            first
              | (have hL5' : w5.heap[w4.heap.size]? = some (.cells #[.slice none 0 0, .int .i64 0] 35 (0, 0)) := hL5
                 have hne := not_rowT hL5' (by decide) hown5
                 have hL6 := set2_heap (.slice a5 (m + (fs.length - (m + 1))) c5) (.int .i64 max) hL5'
                 have hO6 := own_setT (own_setT hown5 ⟨w4.heap.size, 0, none⟩ (.slice a5 (m + (fs.length - (m + 1))) c5) hne) ⟨w4.heap.size, 1, none⟩ (.int .i64 max) hne
                 have hB6 := (hB5.setCell (p := ⟨w4.heap.size, 0, none⟩) hLb (.slice a5 (m + (fs.length - (m + 1))) c5)).setCell (p := ⟨w4.heap.size, 1, none⟩) hLb (.int .i64 max)
                 obtain ⟨L, hL⟩ : ∃ L, L = w4.heap.size := ⟨_, rfl⟩
                 rw [← hL]
                 refine wabsE (fun W => W.heap[wa.heap.size]? = some (.cells #[.slice (some ⟨g, o, none⟩) fs.length c', .int .i64 max] 35 (0, 0)) ∧ W.heap[L]? = some (.cells #[.slice a5 (m + (fs.length - (m + 1))) c5, .int .i64 max] 35 (0, 0)) ∧ Fs W a5 (m + (fs.length - (m + 1))) c5 (fs.take m ++ fs.drop (m + 1)) ∧ Fs W (some ⟨g, o, none⟩) fs.length c' fs ∧ Below w.heap.size w W) (by subst hL; exact ⟨blkB hB6 hTr, hL6, own_Fs (by rw [cellsF_append]; exact hO6), hFr.below hB6, bt' hBr hB6⟩) ?_
                 clear hL6 hO6 hB6 hne hL5')
              | (have hL5' : w5.heap[(wr.heap.size + 1)]? = some (.cells #[.slice none 0 0, .int .i64 0] 35 (0, 0)) := hL5
                 have hne := not_rowT hL5' (by decide) hown5
                 have hL6 := set2_heap (.slice a5 (m + (fs.length - (m + 1))) c5) (.int .i64 max) hL5'
                 have hO6 := own_setT (own_setT hown5 ⟨(wr.heap.size + 1), 0, none⟩ (.slice a5 (m + (fs.length - (m + 1))) c5) hne) ⟨(wr.heap.size + 1), 1, none⟩ (.int .i64 max) hne
                 have hB6 := (hB5.setCell (p := ⟨(wr.heap.size + 1), 0, none⟩) hLb (.slice a5 (m + (fs.length - (m + 1))) c5)).setCell (p := ⟨(wr.heap.size + 1), 1, none⟩) hLb (.int .i64 max)
                 obtain ⟨L, hL⟩ : ∃ L, L = (wr.heap.size + 1) := ⟨_, rfl⟩
                 rw [← hL]
                 refine wabsE (fun W => W.heap[wa.heap.size]? = some (.cells #[.slice (some ⟨g, o, none⟩) fs.length c', .int .i64 max] 35 (0, 0)) ∧ W.heap[L]? = some (.cells #[.slice a5 (m + (fs.length - (m + 1))) c5, .int .i64 max] 35 (0, 0)) ∧ Fs W a5 (m + (fs.length - (m + 1))) c5 (fs.take m ++ fs.drop (m + 1)) ∧ Fs W (some ⟨g, o, none⟩) fs.length c' fs ∧ Below w.heap.size w W) (by subst hL; exact ⟨blkB hB6 hTr, hL6, own_Fs (by rw [cellsF_append]; exact hO6), hFr.below hB6, bt' hBr hB6⟩) ?_
                 clear hL6 hO6 hB6 hne hL5')
              | (have hL5' : w5.heap[wr.heap.size]? = some (.cells #[.slice none 0 0, .int .i64 0] 35 (0, 0)) := hL5
                 have hne := not_rowT hL5' (by decide) hown5
                 have hL6 := set2_heap (.slice a5 (m + (fs.length - (m + 1))) c5) (.int .i64 max) hL5'
                 have hO6 := own_setT (own_setT hown5 ⟨wr.heap.size, 0, none⟩ (.slice a5 (m + (fs.length - (m + 1))) c5) hne) ⟨wr.heap.size, 1, none⟩ (.int .i64 max) hne
                 have hB6 := (hB5.setCell (p := ⟨wr.heap.size, 0, none⟩) hLb (.slice a5 (m + (fs.length - (m + 1))) c5)).setCell (p := ⟨wr.heap.size, 1, none⟩) hLb (.int .i64 max)
                 obtain ⟨L, hL⟩ : ∃ L, L = wr.heap.size := ⟨_, rfl⟩
                 rw [← hL]
                 refine wabsE (fun W => W.heap[wa.heap.size]? = some (.cells #[.slice (some ⟨g, o, none⟩) fs.length c', .int .i64 max] 35 (0, 0)) ∧ W.heap[L]? = some (.cells #[.slice a5 (m + (fs.length - (m + 1))) c5, .int .i64 max] 35 (0, 0)) ∧ Fs W a5 (m + (fs.length - (m + 1))) c5 (fs.take m ++ fs.drop (m + 1)) ∧ Fs W (some ⟨g, o, none⟩) fs.length c' fs ∧ Below w.heap.size w W) (by subst hL; exact ⟨blkB hB6 hTr, hL6, own_Fs (by rw [cellsF_append]; exact hO6), hFr.below hB6, bt' hBr hB6⟩) ?_
                 clear hL6 hO6 hB6 hne hL5')
              | (have hL6 := heap_alloc_last w5 (.cells #[.slice a5 (m + (fs.length - (m + 1))) c5, .int .i64 max] 35)
                 have hO6 := hown5.alloc (.cells #[.slice a5 (m + (fs.length - (m + 1))) c5, .int .i64 max] 35)
                 have hB6 := hB5.alloc hB5.size (.cells #[.slice a5 (m + (fs.length - (m + 1))) c5, .int .i64 max] 35)
                 obtain ⟨L, hL⟩ : ∃ L, L = w5.heap.size := ⟨_, rfl⟩
                 rw [← hL]
                 refine wabsE (fun W => W.heap[wa.heap.size]? = some (.cells #[.slice (some ⟨g, o, none⟩) fs.length c', .int .i64 max] 35 (0, 0)) ∧ W.heap[L]? = some (.cells #[.slice a5 (m + (fs.length - (m + 1))) c5, .int .i64 max] 35 (0, 0)) ∧ Fs W a5 (m + (fs.length - (m + 1))) c5 (fs.take m ++ fs.drop (m + 1)) ∧ Fs W (some ⟨g, o, none⟩) fs.length c' fs ∧ Below w.heap.size w W) (by subst hL; exact ⟨blkB hB6 hTr, hL6, own_Fs (by rw [cellsF_append]; exact hO6), hFr.below hB6, bt' hBr hB6⟩) ?_
                 clear hL6 hO6 hB6)
            rintro W ⟨hTW, hLW, hFl, hFW, hBW⟩
            clear hL hB5 hB4 hown5 hgrow5 hown4 hgrow4
            obtain ⟨y0, y1⟩ := row2c hTW
            obtain ⟨z0', z1'⟩ := row2c hLW
            obtain ⟨d0, d1, d2⟩ := hFW.at m hml
            have hcut := fSum_cut fs m hml
            have hmemL : ∀ f ∈ fs.take m ++ fs.drop (m + 1), f ∈ fs := fun f hf => (List.mem_append.1 hf).elim List.mem_of_mem_take List.mem_of_mem_drop
            have hfl := fLen_pos fs[m]
            have hoL := fun (w' : World) (h : Fs w' a5 (m + (fs.length - (m + 1))) c5 (fs.take m ++ fs.drop (m + 1))) => implTableSize (fs.take m ++ fs.drop (m + 1)) a5 _ c5 max w' h (fun f hf => HSM.out.bd f (hmemL f hf)) (by omega)
            rw [tOk_sub HT.out hmemL (by omega), if_pos rfl, hcut, HS.out] at hoL
            have hfb := HSM.out fs[m] (List.getElem_mem hml)
            obtain ⟨f, hff⟩ : ∃ f, fs[m] = f := ⟨_, rfl⟩
            rw [hff] at d0 d1 d2 hoL hfb hfl
            have hone := fun w => lkOne_any f w (by omega) (by omega)
            have hxb : fLen f ≤ 2097156 := by unfold fLen; omega
            obtain ⟨x, hx⟩ : ∃ x, fLen f = x := ⟨_, rfl⟩
            rw [hx] at hone hoL hfl hxb
            unfold Fd.val at hone
            have hsx : IntKind.i64.wrap (S - x) = S - x := by rw [IntKind.wrap_i64]; omega
            have hd1 : decide (S ≤ max) = true := by simpa using x2
            have HFL : Hid _ := hFl
            have HFW : Hid _ := hFW
            have hB := hBW
            clear hx hff hfb hcut hmemL hFl hFW hTW hLW hbel hFr hBr hTr hOf hAl HA0 HC0 HD0 hz0 hzc hzd hLc hLd hsl
            go_wp2
            have hkeepW : ∀ w1 w2 : World, Below w1.heap.size w1 w2 → (w1.cell? ⟨wa.heap.size, 0, none⟩ = some (.slice (some ⟨g, o, none⟩) fs.length c') ∧ w1.cell? ⟨wa.heap.size, 1, none⟩ = some (.int .i64 max) ∧ w1.cell? ⟨L, 0, none⟩ = some (.slice a5 (m + (fs.length - (m + 1))) c5) ∧ w1.cell? ⟨L, 1, none⟩ = some (.int .i64 max) ∧ w1.cell? ⟨g, o + m * 3, none⟩ = some (.string f.n) ∧ w1.cell? ⟨g, o + m * 3 + 1, none⟩ = some (.string f.v) ∧ w1.cell? ⟨g, o + m * 3 + 2, none⟩ = some (.bool f.q) ∧ Below W.heap.size W w1) → (w2.cell? ⟨wa.heap.size, 0, none⟩ = some (.slice (some ⟨g, o, none⟩) fs.length c') ∧ w2.cell? ⟨wa.heap.size, 1, none⟩ = some (.int .i64 max) ∧ w2.cell? ⟨L, 0, none⟩ = some (.slice a5 (m + (fs.length - (m + 1))) c5) ∧ w2.cell? ⟨L, 1, none⟩ = some (.int .i64 max) ∧ w2.cell? ⟨g, o + m * 3, none⟩ = some (.string f.n) ∧ w2.cell? ⟨g, o + m * 3 + 1, none⟩ = some (.string f.v) ∧ w2.cell? ⟨g, o + m * 3 + 2, none⟩ = some (.bool f.q) ∧ Below W.heap.size W w2) := by
              rintro w1 w2 hb ⟨h0, h1, h2, h3, h4, h5, h6, hB⟩
              exact ⟨keepc hb h0, keepc hb h1, keepc hb h2, keepc hb h3, keepc hb h4, keepc hb h5, keepc hb h6, bt' hB hb⟩
            have hBelW : ∀ w' : World, (w'.cell? ⟨wa.heap.size, 0, none⟩ = some (.slice (some ⟨g, o, none⟩) fs.length c') ∧ w'.cell? ⟨wa.heap.size, 1, none⟩ = some (.int .i64 max) ∧ w'.cell? ⟨L, 0, none⟩ = some (.slice a5 (m + (fs.length - (m + 1))) c5) ∧ w'.cell? ⟨L, 1, none⟩ = some (.int .i64 max) ∧ w'.cell? ⟨g, o + m * 3, none⟩ = some (.string f.n) ∧ w'.cell? ⟨g, o + m * 3 + 1, none⟩ = some (.string f.v) ∧ w'.cell? ⟨g, o + m * 3 + 2, none⟩ = some (.bool f.q) ∧ Below W.heap.size W w') → Below W.heap.size W w' := fun w' h => h.2.2.2.2.2.2.2
            have hmx : Try.prog.follows .mixedOrders = true := by kernel_rfl
            go_region_held3 (fun w' => w'.cell? ⟨wa.heap.size, 0, none⟩ = some (.slice (some ⟨g, o, none⟩) fs.length c') ∧ w'.cell? ⟨wa.heap.size, 1, none⟩ = some (.int .i64 max) ∧ w'.cell? ⟨L, 0, none⟩ = some (.slice a5 (m + (fs.length - (m + 1))) c5) ∧ w'.cell? ⟨L, 1, none⟩ = some (.int .i64 max) ∧ w'.cell? ⟨g, o + m * 3, none⟩ = some (.string f.n) ∧ w'.cell? ⟨g, o + m * 3 + 1, none⟩ = some (.string f.v) ∧ w'.cell? ⟨g, o + m * 3 + 2, none⟩ = some (.bool f.q) ∧ Below W.heap.size W w') (first | exact ⟨y0, y1, z0', z1', d0, d1, d2, (Below.refl _ _).drew⟩ | exact hkeepW _ _ hbN (by assumption)) ((first | (go_at_call 19; refine (hoL _ (HFL.out.below (hBelW _ (by assumption)))).mono ?_; clear hoL; rintro e wN ⟨rfl, hbN⟩) | (go_at_call 22; refine (hone _).mono ?_; clear hone; rintro e wN ⟨rfl, hbN⟩)))
            all_goals
              go_wp2
              go_ret
              first | exact ⟨ret_bool' (by simp), bt' hB (hBelW _ (by assumption))⟩ | exact ⟨ret_bool' (by simp), bt' hB (hBelW _ (hkeepW _ _ hbN (by assumption)))⟩
end Go.Proofs.Ytafhpcgdlmkbead
