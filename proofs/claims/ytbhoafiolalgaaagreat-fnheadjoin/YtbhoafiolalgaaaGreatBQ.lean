import Derived.Test.YtbhoafiolalgaaaGreatHW1
namespace Go.Proofs.YtbhoafiolalgaaaGreat
open Go.RowKit
set_option linter.unusedVariables false

theorem blkH {w w' : World} {B : Nat} {o : Obj} (hb : Below w.heap.size w w') (h : w.heap[B]? = some o) : w'.heap[B]? = some o := (hb.block _ (Array.getElem?_eq_some_iff.1 h).1).trans h
theorem take_oneF (h : List Fd) (k : Nat) (hk : k < h.length) : h.take (k + 1) = h.take k ++ [h[k]] := List.take_succ_eq_append_getElem hk
theorem wrH_step (fs : List Fd) (max : Int) (h : List Fd) (k : Nat) (hk : k < h.length) : wrH fs max (h.take (k + 1)) = ((wrF (wrH fs max (h.take k)).1 max h[k]).1, (wrH fs max (h.take k)).2 ++ (wrF (wrH fs max (h.take k)).1 max h[k]).2) := by
  rw [take_oneF h k hk, wrH_append]
  simp only [wrH, append_none]
/-- A table that can be read, and bytes: what writing answers. -/
def HwAns (w : World) (r : (List Fd × Int) × ByteArray) (e : Ending) (w' : World) : Prop := ∃ a n c, e = .returned (.tuple #[.agg #[.slice a n c, .int .i64 r.1.2], .string r.2]) ∧ Fs w' a n c r.1.1 ∧ Below w.heap.size w w'
set_option maxRecDepth 100000 in
set_option maxHeartbeats 4000000 in
theorem l11All_any (fs h : List Fd) (a ah : Option Addr) (n cap nh ch : Nat) (max : Int) (w : World) (hf : Fs w a n cap fs) (hfh : Fs w ah nh ch h) (ht : tOk fs max = true) (hh : ∀ f ∈ h, fOk f = true) (hnh : h.length ≤ 6) :
    Calls Tryz.prog 32 #[.agg #[.slice a n cap, .int .i64 max], .slice ah nh ch] w (HwAns w (((wrH fs max h).1, max), (wrH fs max h).2)) := by
  have HF : Hid (Fs w a n cap fs) := hf
  have HH : Hid (Fs w ah nh ch h) := hfh
  have hlen := hfh.len
  have hsz := fun k => wrH_size (h.take k) fs max
  unfold HwAns
  dsimp only
  have hb0 : Below w.heap.size w ((w.alloc (.cells #[.slice a n cap, .int .i64 max] 25)).alloc (.cells #[.slice none 0 0, .int .i64 0] 25)) := ((Below.refl _ _).alloc (Nat.le_refl _) _).alloc (by simp) _
  have hT0 : ((w.alloc (.cells #[.slice a n cap, .int .i64 max] 25)).alloc (.cells #[.slice none 0 0, .int .i64 0] 25)).heap[w.heap.size]? = some (.cells #[.slice a n cap, .int .i64 max] 25 (0, 0)) := blkT (heap_alloc_last w _) _
  have hR0 : ((w.alloc (.cells #[.slice a n cap, .int .i64 max] 25)).alloc (.cells #[.slice none 0 0, .int .i64 0] 25)).heap[w.heap.size + 1]? = some (.cells #[.slice none 0 0, .int .i64 0] 25 (0, 0)) := by
    have h := heap_alloc_last (w.alloc (.cells #[.slice a n cap, .int .i64 max] 25)) (.cells #[.slice none 0 0, .int .i64 0] 25)
    rwa [World.size_alloc] at h
  have HT0 : Hid _ := hT0
  have HR0 : Hid _ := hR0
  clear hT0 hR0 hf hfh
  have hmx : Tryz.prog.follows .mixedOrders = true := by kernel_rfl
  go_enter Tryz.func32, Tryz.ntmps32
  go_wp2
  go_loopw [6, 7] (fun out i wr => ∃ (k : Nat) (at1 : Option Addr) (nt ct : Nat), k ≤ nh ∧ i = .int .i64 k ∧ out = .string (wrH fs max (h.take k)).2 ∧ wr.heap[w.heap.size]? = some (.cells #[.slice at1 nt ct, .int .i64 max] 25 (0, 0)) ∧ wr.heap[w.heap.size + 1]? = some (.cells #[.slice none 0 0, .int .i64 0] 25 (0, 0)) ∧ Fs wr at1 nt ct (wrH fs max (h.take k)).1 ∧ Below w.heap.size w wr) (fun _ i _ => nh - (intOf i).toNat)
  case atStart => exact ⟨0, a, n, cap, by omega, rfl, rfl, HT0.out, HR0.out, HF.out.below hb0, hb0⟩
  case round =>
    clear HT0 HR0 hb0
    obtain ⟨k, at1, nt, ct, hk, rfl, rfl, hT, hR, hFt, hbel⟩ := hrel
    have htk : tOk (wrH fs max (h.take k)).1 max = true := wrH_ok _ _ ht (fun x hx => hh x (List.mem_of_mem_take hx))
    have hkz := hsz k
    have hkz2 : (wrH fs max (h.take k)).2.size ≤ 1000 := by rw [List.length_take] at hkz; omega
    by_cases hlt : k < nh
    · have hlt' : (k : Int) < nh := by omega
      have hk0 : (0 : Int) ≤ k := by omega
      have hkl : k < h.length := by omega
      have HST : Hid _ := wrH_step fs max h k hkl
      obtain ⟨gs, hgs⟩ : ∃ x, (wrH fs max (h.take k)).1 = x := ⟨_, rfl⟩
      obtain ⟨out, hout⟩ : ∃ x, (wrH fs max (h.take k)).2 = x := ⟨_, rfl⟩
      obtain ⟨gh, oh, rfl⟩ := HH.out.some' (by omega)
      obtain ⟨c0, c1, c2⟩ := (HH.out.below hbel).at k hkl
      have hfo := hh h[k] (List.getElem_mem hkl)
      obtain ⟨f, hff⟩ : ∃ f, h[k] = f := ⟨_, rfl⟩
      have HST2 : Hid (wrH fs max (h.take (k + 1)) = ((wrF gs max f).1, out ++ (wrF gs max f).2)) := by
        have := HST.out
        rw [hgs, hout, hff] at this
        exact this
      rw [hgs] at htk hFt
      rw [hout] at hkz2
      rw [hout]
      rw [hff] at c0 c1 c2 hfo
      clear HST hgs hout hff hkz hsz
      have hsf := wrF_size gs max f
      have hcall := fun (w' : World) (h' : Fs w' at1 nt ct gs) => l11Write_any gs f at1 nt ct max w' h' htk hfo
      obtain ⟨⟨ys, s2⟩, hys⟩ : ∃ x, wrF gs max f = x := ⟨_, rfl⟩
      rw [hys] at hcall hsf
      have HY : Hid (wrF gs max f = (ys, s2)) := hys
      clear hys htk hfo
      dsimp only at hcall hsf
      unfold Fd.val at hcall
      obtain ⟨p0, p1⟩ := row2c hT
      have HFt : Hid (Fs wr at1 nt ct gs) := hFt
      have HT : Hid (wr.heap[w.heap.size]? = some (.cells #[.slice at1 nt ct, .int .i64 max] 25 (0, 0))) := hT
      have HR : Hid (wr.heap[w.heap.size + 1]? = some (.cells #[.slice none 0 0, .int .i64 0] 25 (0, 0))) := hR
      have HB : Hid (Below w.heap.size w wr) := hbel
      have hzw := hbel.size
      clear hFt hT hR hbel
      have hkeepV : ∀ w1 w2 : World, Below w1.heap.size w1 w2 → (w1.cell? ⟨w.heap.size, 0, none⟩ = some (.slice at1 nt ct) ∧ w1.cell? ⟨w.heap.size, 1, none⟩ = some (.int .i64 max) ∧ w1.cell? ⟨gh, oh + k * 3, none⟩ = some (.string f.n) ∧ w1.cell? ⟨gh, oh + k * 3 + 1, none⟩ = some (.string f.v) ∧ w1.cell? ⟨gh, oh + k * 3 + 2, none⟩ = some (.bool f.q) ∧ Below wr.heap.size wr w1) → (w2.cell? ⟨w.heap.size, 0, none⟩ = some (.slice at1 nt ct) ∧ w2.cell? ⟨w.heap.size, 1, none⟩ = some (.int .i64 max) ∧ w2.cell? ⟨gh, oh + k * 3, none⟩ = some (.string f.n) ∧ w2.cell? ⟨gh, oh + k * 3 + 1, none⟩ = some (.string f.v) ∧ w2.cell? ⟨gh, oh + k * 3 + 2, none⟩ = some (.bool f.q) ∧ Below wr.heap.size wr w2) := by
        rintro w1 w2 hb ⟨h0, h1, h2, h3, h4, hB⟩
        exact ⟨keepc hb h0, keepc hb h1, keepc hb h2, keepc hb h3, keepc hb h4, bt' hB hb⟩
      have hBelV : ∀ w' : World, (w'.cell? ⟨w.heap.size, 0, none⟩ = some (.slice at1 nt ct) ∧ w'.cell? ⟨w.heap.size, 1, none⟩ = some (.int .i64 max) ∧ w'.cell? ⟨gh, oh + k * 3, none⟩ = some (.string f.n) ∧ w'.cell? ⟨gh, oh + k * 3 + 1, none⟩ = some (.string f.v) ∧ w'.cell? ⟨gh, oh + k * 3 + 2, none⟩ = some (.bool f.q) ∧ Below wr.heap.size wr w') → Below wr.heap.size wr w' := fun w' h => h.2.2.2.2.2
      have hV0 : wr.cell? ⟨w.heap.size, 0, none⟩ = some (.slice at1 nt ct) ∧ wr.cell? ⟨w.heap.size, 1, none⟩ = some (.int .i64 max) ∧ wr.cell? ⟨gh, oh + k * 3, none⟩ = some (.string f.n) ∧ wr.cell? ⟨gh, oh + k * 3 + 1, none⟩ = some (.string f.v) ∧ wr.cell? ⟨gh, oh + k * 3 + 2, none⟩ = some (.bool f.q) ∧ Below wr.heap.size wr wr := ⟨p0, p1, c0, c1, c2, Below.refl _ _⟩
      have hOf : ∀ w', Below wr.heap.size wr w' → (w'.cell? ⟨w.heap.size, 0, none⟩ = some (.slice at1 nt ct) ∧ w'.cell? ⟨w.heap.size, 1, none⟩ = some (.int .i64 max) ∧ w'.cell? ⟨gh, oh + k * 3, none⟩ = some (.string f.n) ∧ w'.cell? ⟨gh, oh + k * 3 + 1, none⟩ = some (.string f.v) ∧ w'.cell? ⟨gh, oh + k * 3 + 2, none⟩ = some (.bool f.q) ∧ Below wr.heap.size wr w') := fun w' hb => ⟨keepc hb p0, keepc hb p1, keepc hb c0, keepc hb c1, keepc hb c2, hb⟩
      go_upto_region 5 with fail
      go_cut [8, 9] from 16 to 24 (fun s8 s9 wx => ∃ L a2 n2 c2, s8 = .pointer (some ⟨L, 0, none⟩) ∧ s9 = .string s2 ∧ wx.heap[L]? = some (.cells #[.slice a2 n2 c2, .int .i64 max] 25 (0, 0)) ∧ Fs wx a2 n2 c2 ys ∧ Below wr.heap.size wr wx)
      case first =>
        go_region_held3 (fun w' => w'.cell? ⟨w.heap.size, 0, none⟩ = some (.slice at1 nt ct) ∧ w'.cell? ⟨w.heap.size, 1, none⟩ = some (.int .i64 max) ∧ w'.cell? ⟨gh, oh + k * 3, none⟩ = some (.string f.n) ∧ w'.cell? ⟨gh, oh + k * 3 + 1, none⟩ = some (.string f.v) ∧ w'.cell? ⟨gh, oh + k * 3 + 2, none⟩ = some (.bool f.q) ∧ Below wr.heap.size wr w') (first | assumption | exact hkeepV _ _ ((Below.refl _ _).drew) hV0 | exact hkeepV _ _ ((Below.refl _ _).alloc (Nat.le_refl _) _) (by assumption) | exact hkeepV _ _ hb2 (by assumption) | exact hOf _ ((hE2.setCell (p := ⟨_, 0, none⟩) hLb _).setCell (p := ⟨_, 1, none⟩) hLb _) | exact hOf _ (hE2.alloc hE2.size _)) ((first | (go_at_call 52; refine (hcall _ (HFt.out.below (hBelV _ (by assumption)))).mono ?_; rintro e w2 ⟨a2, n2, c2', rfl, hF2, hb2⟩; have hE2 := bt' (hBelV _ (by assumption)) hb2; (first | (have hL3 : w2.heap[wr.heap.size]? = some (.cells #[.slice none 0 0, .int .i64 0] 25 (0, 0)) := blkH hb2 (heap_alloc_last wr.drew (.cells #[.slice none 0 0, .int .i64 0] 25)); have hLb : wr.heap.size ≤ wr.heap.size := Nat.le_refl _; obtain ⟨l0, l1⟩ := row2c hL3; have q0 := frz 0 hL3; have q1 := frz 1 hL3) | skip))))
        all_goals
          first
            | (have hL4 : w2.heap[wr.heap.size]? = some (.cells #[.slice none 0 0, .int .i64 0] 25 (0, 0)) := hL3
               have hL6 := set2_heap (.slice a2 n2 c2') (.int .i64 max) hL4
               have hF6 := hF2.set2 (.slice a2 n2 c2') (.int .i64 max) hL4 0 1
               have hE6 := (hE2.setCell (p := ⟨wr.heap.size, 0, none⟩) hLb (.slice a2 n2 c2')).setCell (p := ⟨wr.heap.size, 1, none⟩) hLb (.int .i64 max)
               go_wp2_with fail
               go_meet
               exact ⟨_, _, _, _, rfl, rfl, hL6, hF6, hE6⟩)
            | (have hL6 := heap_alloc_last w2 (.cells #[.slice a2 n2 c2', .int .i64 max] 25)
               have hE6 := hE2.alloc hE2.size (.cells #[.slice a2 n2 c2', .int .i64 max] 25)
               have hF6 := hF2.below ((Below.refl _ _).alloc (Nat.le_refl _) (.cells #[.slice a2 n2 c2', .int .i64 max] 25))
               go_wp2_with fail
               go_meet
               exact ⟨_, _, _, _, rfl, rfl, hL6, hF6, hE6⟩)
      case rest =>
        obtain ⟨L, a2, n2, c2', rfl, rfl, hL, hF2, hb2⟩ := hcut
        clear hkeepV hBelV hV0 hOf hcall p0 p1 c0 c1 c2
        have hT2 := blkH hb2 HT.out
        have hR2 := blkH hb2 HR.out
        have hB2 := bt' HB.out hb2
        obtain ⟨l0, l1⟩ := row2c hL
        obtain ⟨t0, t1⟩ := row2c hT2
        have f0 := frz 0 hT2
        have f1 := frz 1 hT2
        have hcat : out.size + s2.size ≤ 9223372036854775807 := by omega
        have hcat' : ¬ 9223372036854775807 < out.size + s2.size := by omega
        have hLT : L ≠ w.heap.size ∨ L = w.heap.size := by omega
        go_wp2
        go_roundw
        case rel =>
          refine ⟨k + 1, a2, n2, c2', by omega, by go_num, ?_, set2_heap _ _ hT2, ?_, ?_, ?_⟩
          · rw [HST2.out, HY.out]
          · rw [Below.heap_setCell _ _ _ _ (by show w.heap.size + 1 ≠ w.heap.size; omega), Below.heap_setCell _ _ _ _ (by show w.heap.size + 1 ≠ w.heap.size; omega)]
            exact hR2
          · rw [HST2.out, HY.out]
            exact hF2.set2 _ _ hT2 0 1
          · exact (hB2.setCell (p := ⟨w.heap.size, 0, none⟩) (Nat.le_refl _) _).setCell (p := ⟨w.heap.size, 1, none⟩) (Nat.le_refl _) _
        case measure => simp [intOf]; omega
    · have hke : h.take k = h := List.take_of_length_le (by omega)
      rw [hke] at hFt
      rw [hke]
      obtain ⟨p0, p1⟩ := row2c hT
      obtain ⟨r0, r1⟩ := row2c hR
      have f0 := frz 0 hR
      have f1 := frz 1 hR
      clear hsz htk
      go_wp2
      refine bodyPost_ret (results_cell_tmp rfl _ _ (w.heap.size + 1) #[.slice at1 nt ct, .int .i64 max] rfl (load_tab (set2_heap _ _ hR))) rfl ⟨_, _, _, rfl, hFt.set2 _ _ hR 0 1, (hbel.setCell (p := ⟨w.heap.size + 1, 0, none⟩) (by show w.heap.size ≤ w.heap.size + 1; omega) _).setCell (p := ⟨w.heap.size + 1, 1, none⟩) (by show w.heap.size ≤ w.heap.size + 1; omega) _⟩
end Go.Proofs.YtbhoafiolalgaaaGreat

namespace Go.Proofs.YtbhoafiolalgaaaGreat
open Go.RowKit
set_option linter.unusedVariables false

theorem Fs_nil (w : World) : Fs w none 0 0 [] := ⟨rfl, Nat.le_refl _, by unfold maxLen; omega, (by intro g o e; cases e), (by intro h; omega), .inl ⟨rfl, rfl, rfl⟩⟩
set_option maxRecDepth 100000 in
set_option maxHeartbeats 4000000 in
theorem specHeadWrite (fs h : List Fd) (a ah : Option Addr) (n cap nh ch : Nat) (max : Int) (w : World) (hf : Fs w a n cap fs) (hbd : fsBd fs) (hn : n ≤ 1048576) (hfh : Fs w ah nh ch h) (hbh : fsBd h) (hnh : nh ≤ 1048576) :
    Calls Tryz.prog 14 #[.agg #[.slice a n cap, .int .i64 max], .slice ah nh ch] w (HwAns w (hWr fs max h)) := by
  have hok := fun (w' : World) (h' : Fs w' a n cap fs) => specTableOk fs a n cap max w' h' hbd hn
  have hhd := fun (w' : World) (h' : Fs w' ah nh ch h) => specHeadOk h ah nh ch w' h' hbh hnh
  have HF : Hid (Fs w a n cap fs) := hf
  have HH : Hid (Fs w ah nh ch h) := hfh
  clear hf hfh hbd hbh
  have hb2 : Below w.heap.size w ((w.alloc (.cells #[.slice a n cap, .int .i64 max] 25)).alloc (.cells #[.slice none 0 0, .int .i64 0] 25)) := ((Below.refl _ _).alloc (Nat.le_refl _) _).alloc (by simp) _
  have hT : Hid (((w.alloc (.cells #[.slice a n cap, .int .i64 max] 25)).alloc (.cells #[.slice none 0 0, .int .i64 0] 25)).heap[w.heap.size]? = some (.cells #[.slice a n cap, .int .i64 max] 25 (0, 0))) := blkT (heap_alloc_last w _) _
  have hR : Hid (((w.alloc (.cells #[.slice a n cap, .int .i64 max] 25)).alloc (.cells #[.slice none 0 0, .int .i64 0] 25)).heap[w.heap.size + 1]? = some (.cells #[.slice none 0 0, .int .i64 0] 25 (0, 0))) := by
    have h := heap_alloc_last (w.alloc (.cells #[.slice a n cap, .int .i64 max] 25)) (.cells #[.slice none 0 0, .int .i64 0] 25)
    rw [World.size_alloc] at h
    exact h
  have hmx : Tryz.prog.follows .mixedOrders = true := by kernel_rfl
  unfold HwAns
  cases ht : tOk fs max with
  | false =>
    rw [ht] at hok
    rw [hWr_bad (by rw [ht]; rfl)]
    dsimp only
    clear ht hhd
    go_enter Tryz.func14, Tryz.ntmps14
    go_wp2_with (first | (go_at_call 20; refine (hok _ (HF.out.below hb2)).mono ?_; clear hok; rintro e w1 ⟨rfl, hb1⟩; have hR1 := blkH hb1 hR.out; obtain ⟨r0, r1⟩ := row2c hR1; have f0 := frz 0 hR1; have f1 := frz 1 hR1))
    have hbw1 := bt' hb2 hb1
    refine bodyPost_ret (results_cell_tmp rfl _ _ (w.heap.size + 1) #[.slice none 0 0, .int .i64 0] rfl (load_tab (set2_heap _ _ hR1))) rfl ⟨_, _, _, rfl, Fs_nil _, (hbw1.setCell (p := ⟨w.heap.size + 1, 0, none⟩) (by show w.heap.size ≤ w.heap.size + 1; omega) _).setCell (p := ⟨w.heap.size + 1, 1, none⟩) (by show w.heap.size ≤ w.heap.size + 1; omega) _⟩
  | true =>
    rw [ht] at hok
    cases hh : hOk h with
    | false =>
      rw [hh] at hhd
      rw [hWr_bad (by rw [hh, Bool.and_false])]
      dsimp only
      clear ht hh
      go_enter Tryz.func14, Tryz.ntmps14
      go_wp2_with (first | (go_at_call 20; refine (hok _ (HF.out.below hb2)).mono ?_; clear hok; rintro e w1 ⟨rfl, hb1⟩; have hbw1 := bt' hb2 hb1) | (go_at_call 31; refine (hhd _ (HH.out.below hbw1)).mono ?_; clear hhd; rintro e w2 ⟨rfl, hb2'⟩; have hR1 := blkH hb2' (blkH hb1 hR.out); obtain ⟨r0, r1⟩ := row2c hR1; have f0 := frz 0 hR1; have f1 := frz 1 hR1; have hbw2 := bt' hbw1 hb2'))
      refine bodyPost_ret (results_cell_tmp rfl _ _ (w.heap.size + 1) #[.slice none 0 0, .int .i64 0] rfl (load_tab (set2_heap _ _ hR1))) rfl ⟨_, _, _, rfl, Fs_nil _, (hbw2.setCell (p := ⟨w.heap.size + 1, 0, none⟩) (by show w.heap.size ≤ w.heap.size + 1; omega) _).setCell (p := ⟨w.heap.size + 1, 1, none⟩) (by show w.heap.size ≤ w.heap.size + 1; omega) _⟩
    | true =>
      rw [hh] at hhd
      rw [hWr_ok ht hh]
      dsimp only
      have hn16 := tOk_len ht
      have hln := HF.out.len
      have hhp := hOk_parts hh
      have hall := fun (w' : World) (a' : Option Addr) (n' c' : Nat) (h1 : Fs w' a' n' c' fs) (h2 : Fs w' ah nh ch h) => l11All_any fs h a' ah n' c' nh ch max w' h1 h2 ht hhp.1 hhp.2
      unfold HwAns at hall
      dsimp only at hall
      obtain ⟨⟨ys, s2⟩, hys⟩ : ∃ x, wrH fs max h = x := ⟨_, rfl⟩
      rw [hys] at hall ⊢
      dsimp only at hall ⊢
      clear ht hh hys hhp
      go_enter Tryz.func14, Tryz.ntmps14
      go_wp2_with (first | (go_at_call 20; refine (hok _ (HF.out.below hb2)).mono ?_; clear hok; rintro e w1 ⟨rfl, hb1⟩; have hbw1 := bt' hb2 hb1) | (go_at_call 31; refine (hhd _ (HH.out.below hbw1)).mono ?_; clear hhd; rintro e W0 ⟨rfl, hb2'⟩; have hT1 := blkH hb2' (blkH hb1 hT.out); have hR1 := blkH hb2' (blkH hb1 hR.out); have hbw2 := bt' hbw1 hb2'))
      have hz : w.heap.size + 1 + 1 ≤ W0.heap.size := by
        have := hb1.size
        have := hb2'.size
        simp at *
        omega
      have hbd : Below w.heap.size w W0.drew := hbw2.drew
      have hTd : W0.drew.heap[w.heap.size]? = some (.cells #[.slice a n cap, .int .i64 max] 25 (0, 0)) := hT1
      have hRd : W0.drew.heap[w.heap.size + 1]? = some (.cells #[.slice none 0 0, .int .i64 0] 25 (0, 0)) := hR1
      have hFd : Fs W0.drew a n cap fs := HF.out.below hbd
      have hHd : Fs W0.drew ah nh ch h := HH.out.below hbd
      have hba : Below W0.drew.heap.size W0.drew (W0.drew.alloc (.cells #[] 52)) := (Below.refl _ _).alloc (Nat.le_refl _) _
      obtain ⟨q1, q2⟩ := row2c hTd
      obtain ⟨q3, q4⟩ := row2c (blkH hba hTd)
      have hz0 := own_zero3 W0.drew 52
      clear hb1 hb2' hT1 hR1 hbw1
      go_region_held3 (fun w' => w'.cell? ⟨w.heap.size, 0, none⟩ = some (.slice a n cap) ∧ w'.cell? ⟨w.heap.size, 1, none⟩ = some (.int .i64 max)) (first | exact ⟨q1, q2⟩ | exact ⟨q3, q4⟩ | exact row2c hT4 | exact row2c hT5 | exact (by rw [cell_set _ _ _ _ (by show w.heap.size ≠ w.heap.size + 1; omega), cell_set _ _ _ _ (by show w.heap.size ≠ w.heap.size + 1; omega), cell_set _ _ _ _ (by show w.heap.size ≠ w.heap.size + 1; omega), cell_set _ _ _ _ (by show w.heap.size ≠ w.heap.size + 1; omega)]; exact row2c hT5)) ((first | (go_at_call 32; refine (hall _ _ _ _ hFs4 hH4).mono ?_; rintro e w5 ⟨a5, n5, c5, rfl, hF5, hb5⟩; have hT5 := blkH hb5 hT4; have hR5 := blkH hb5 hR4; obtain ⟨r0, r1⟩ := row2c hR5; have f0 := frz 0 hR5; have f1 := frz 1 hR5) | (refine step_appFs _ (by rfl) _ _ (by rfl) W0.drew.heap.size _ _ _ (by rfl) hz0 a n cap fs (by rfl) (hFd.below hba) (by omega) hba.size ?_; intro v4 w4 hown4 hgrow4; rw [Nat.zero_add, List.nil_append] at hown4; obtain ⟨a4, c4, rfl⟩ := own_formT hown4; have hFs4 := own_Fs hown4; have hb4 : Below W0.drew.heap.size W0.drew w4 := hba.grown hgrow4 hba.size (fun q hq => by injection hq with hq; rw [← hq]; exact Nat.le_refl _); have hT4 := blkH hb4 hTd; have hR4 := blkH hb4 hRd; have hH4 := hHd.below hb4)))
      go_wp2
      have hbw5 := bt' (bt' hbd hb4) hb5
      refine bodyPost_ret (results_cell_tmp rfl _ _ (w.heap.size + 1) #[.slice a5 n5 c5, .int .i64 max] rfl (load_tab (set2_heap _ _ hR5))) rfl ⟨_, _, _, rfl, hF5.set2 _ _ hR5 0 1, (hbw5.setCell (p := ⟨w.heap.size + 1, 0, none⟩) (by show w.heap.size ≤ w.heap.size + 1; omega) _).setCell (p := ⟨w.heap.size + 1, 1, none⟩) (by show w.heap.size ≤ w.heap.size + 1; omega) _⟩
end Go.Proofs.YtbhoafiolalgaaaGreat
