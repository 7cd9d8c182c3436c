import Derived.Test.YtghgcobnmmommaaBL
import Derived.Test.YtghgcobnmmommaaBB
namespace Go.Proofs.Ytghgcobnmmommaa
open Go.RowKit
set_option linter.unusedVariables false

set_option maxRecDepth 100000 in
set_option maxHeartbeats 400000 in
theorem implTableFixed (w : World) :
    Calls Try.prog 135 #[] w fun e w' => ∃ a c, e = .returned (.slice a 6 c) ∧ w'.ownsRow w.heap.size 107 3 (.slice a 6 c) 6 (cellsF fixedL) ∧ Below w.heap.size w w' := by
  go_enter Try.func135, Try.ntmps135
  go_wp2
  go_ret
  exact ⟨_, _, rfl, own_new w w.heap.size 107 3 6 (cellsF fixedL) (Nat.le_refl _) (by decide) rfl, (Below.refl _ _).alloc (Nat.le_refl _) _⟩

set_option maxRecDepth 100000 in
set_option maxHeartbeats 1000000 in
theorem tablePlaces_any (fs : List Fd) (a : Option Addr) (n cap : Nat) (max : Int) (w : World) (hf : Fs w a n cap fs) (hk : fsKept fs) (hn : n ≤ 900) :
    Calls Try.prog 133 #[.agg #[.slice a n cap, .int .i64 max]] w fun e w' => ∃ a' c', e = .returned (.slice a' (6 + n) c') ∧ w'.ownsRow w.heap.size 107 3 (.slice a' (6 + n) c') (6 + n) (cellsF (fixedL ++ fs)) ∧ Below w.heap.size w w' := by
  have hlen := hf.len
  have HF : Hid (Fs w a n cap fs) := hf
  have hring := fun (w' : World) (h : Fs w' a n cap fs) => tableRing_any fs a n cap max w' h hk hn
  have hlist := fun (base B g fi : Nat) (w' : World) (h : Rg base w' B g (n + 1) fi fs) (hb : base ≤ w'.heap.size) => list_any base B g (n + 1) fi fs w' h hb
  rw [hlen] at hlist
  have HK : Hid (fsKept fs) := hk
  clear hf hk
  have hb1 : Below w.heap.size w (w.alloc (.cells #[.slice a n cap, .int .i64 max] 26)) := (Below.refl _ _).alloc (Nat.le_refl _) _
  have hT : Hid ((w.alloc (.cells #[.slice a n cap, .int .i64 max] 26)).heap[w.heap.size]? = some (.cells #[.slice a n cap, .int .i64 max] 26 (0, 0))) := heap_alloc_last w _
  have hmx : Try.prog.follows .mixedOrders = true := by kernel_rfl
  go_enter Try.func133, Try.ntmps133
  go_wp2
  obtain ⟨W0, hW0⟩ : ∃ W0, (w.alloc (.cells #[.slice a n cap, .int .i64 max] 26)) = W0 := ⟨_, rfl⟩
  rw [hW0] at hb1 hT ⊢
  clear hW0
  have hbd : Below w.heap.size w W0.drew := hb1.drew
  have hTd : W0.drew.heap[w.heap.size]? = some (.cells #[.slice a n cap, .int .i64 max] 26 (0, 0)) := hT.out
  have q0 := cell_of_row _ _ 0 _ _ _ hTd
  have q1 := cell_of_row _ _ 1 _ _ _ hTd
  simp at q0 q1
  go_region_held3 (fun w' => w'.cell? ⟨w.heap.size, 0, none⟩ = some (.slice a n cap) ∧ w'.cell? ⟨w.heap.size, 1, none⟩ = some (.int .i64 max)) (first | exact ⟨q0, q1⟩ | exact ⟨r0, r1⟩ | exact ⟨s0, s1⟩ | exact ⟨u0, u1⟩ | exact ⟨v0, v1⟩) ((first | (go_at_call 135; refine (implTableFixed _).mono ?_; rintro e w1 ⟨a1, c1, rfl, hown1, hbx⟩; have hT1 := (hbx.block _ (Array.getElem?_eq_some_iff.1 hTd).1).trans hTd; have r0 := cell_of_row _ _ 0 _ _ _ hT1; have r1 := cell_of_row _ _ 1 _ _ _ hT1; simp at r0 r1; have hbw1 := hbd.trans (hbx.mono hbd.size)) | (go_at_call 109; refine (hring _ (HF.out.below hbw1)).mono ?_; clear hring; rintro e w2 ⟨B, g, fi, rfl, hG2, hb2⟩; have hT2 := (hb2.block _ (Array.getElem?_eq_some_iff.1 hT1).1).trans hT1; have s0 := cell_of_row _ _ 0 _ _ _ hT2; have s1 := cell_of_row _ _ 1 _ _ _ hT2; simp at s0 s1; have hown2 := own_belowT hown1 hb2; have hbw2 := hbw1.trans (hb2.mono hbw1.size)) | (go_at_call 116; refine (hlist _ _ _ _ _ hG2 hb2.size).mono ?_; clear hlist; rintro e w3 ⟨a3, c3, rfl, hown3, hb3⟩; have hT3 := (hb3.block _ (Array.getElem?_eq_some_iff.1 hT2).1).trans hT2; have u0 := cell_of_row _ _ 0 _ _ _ hT3; have u1 := cell_of_row _ _ 1 _ _ _ hT3; simp at u0 u1; have hown33 := own_baseT (own_belowT hown2 hb3) hbd.size; have hbw3 := hbw2.trans (hb3.mono hbw2.size)) | (refine step_appFs _ (by rfl) _ _ (by rfl) w.heap.size _ _ _ (by rfl) hown33 a3 n c3 fs (by rfl) (own_Fs hown3) (by omega) hbw3.size ?_; intro v4 w4 hown4 hgrow4; obtain ⟨a4, c4, rfl⟩ := own_formT hown4; have hT4 := (hgrow4.block _ (Array.getElem?_eq_some_iff.1 hT3).1 (not_rowT hT3 (by decide) hown33)).trans hT3; have v0 := cell_of_row _ _ 0 _ _ _ hT4; have v1 := cell_of_row _ _ 1 _ _ _ hT4; simp at v0 v1)))
  go_wp2
  go_ret
  exact ⟨_, _, rfl, by rw [cellsF_append]; exact hown4, hbw3.grown hgrow4 hbw3.size (fun q hq => (hown33.lt q hq).1)⟩

set_option maxRecDepth 100000 in
set_option maxHeartbeats 1000000 in
theorem implTableAt (fs : List Fd) (a : Option Addr) (n cap : Nat) (max at' : Int) (w : World) (hf : Fs w a n cap fs) (hbd : fsBd fs) (hn : n ≤ 1048576) :
    Calls Try.prog 128 #[.agg #[.slice a n cap, .int .i64 max], .int .i64 at'] w fun e w' => e = .returned (.tuple #[(tabAt fs max at').1.val, .bool (tabAt fs max at').2]) ∧ Below w.heap.size w w' := by
  have hok := fun (w' : World) (h : Fs w' a n cap fs) => implTableOk fs a n cap max w' h hbd hn
  have HF : Hid (Fs w a n cap fs) := hf
  have hlen := hf.len
  clear hf hbd
  have hb2 : Below w.heap.size w ((w.alloc (.cells #[.slice a n cap, .int .i64 max] 26)).alloc (.cells #[.string ⟨#[]⟩, .string ⟨#[]⟩, .bool false] 107)) := ((Below.refl _ _).alloc (Nat.le_refl _) _).alloc (by simp) _
  have hT : Hid (((w.alloc (.cells #[.slice a n cap, .int .i64 max] 26)).alloc (.cells #[.string ⟨#[]⟩, .string ⟨#[]⟩, .bool false] 107)).heap[w.heap.size]? = some (.cells #[.slice a n cap, .int .i64 max] 26 (0, 0))) := blkT (heap_alloc_last w _) _
  have hR : Hid (((w.alloc (.cells #[.slice a n cap, .int .i64 max] 26)).alloc (.cells #[.string ⟨#[]⟩, .string ⟨#[]⟩, .bool false] 107)).heap[w.heap.size + 1]? = some (.cells #[.string ⟨#[]⟩, .string ⟨#[]⟩, .bool false] 107 (0, 0))) := by
    have h := heap_alloc_last (w.alloc (.cells #[.slice a n cap, .int .i64 max] 26)) (.cells #[.string ⟨#[]⟩, .string ⟨#[]⟩, .bool false] 107)
    rw [World.size_alloc] at h
    exact h
  cases ht : tOk fs max with
  | false =>
    rw [ht] at hok
    have hv : tabAt fs max at' = (⟨⟨#[]⟩, ⟨#[]⟩, false⟩, false) := by unfold tabAt; rw [ht]; rfl
    rw [hv]
    unfold Fd.val
    clear ht hv
    go_enter Try.func128, Try.ntmps128
    go_wp2_with (first | (go_at_call 31; refine (hok _ (HF.out.below hb2)).mono ?_; clear hok; rintro e w1 ⟨rfl, hb1⟩; have hR1 := (hb1.block _ (Array.getElem?_eq_some_iff.1 hR.out).1).trans hR.out) | (refine wpList_store_row rfl 107 _ _ rfl (w.heap.size + 1) #[.string ⟨#[]⟩, .string ⟨#[]⟩, .bool false] rfl rfl 107 _ hR1 infoF3 rfl (by simp [Value.oneCell']) ?_))
    refine bodyPost_ret (results_cell_tmp rfl _ _ (w.heap.size + 1) #[.string ⟨#[]⟩, .string ⟨#[]⟩, .bool false] rfl (load_fld (setRow_heap _ _ _ _ _ _ hR1))) rfl ⟨rfl, (hb2.trans (hb1.mono hb2.size)).grown (grown_setRowT _ _ _) (Nat.le_trans hb2.size hb1.size) (fun q hq => by injection hq with hq; omega)⟩
  | true =>
    rw [ht] at hok
    have hkept := tOk_kept ht
    have hl16 := tOk_len ht
    have hpls := fun (w' : World) (h : Fs w' a n cap fs) => tablePlaces_any fs a n cap max w' h hkept (by omega)
    have hv : tabAt fs max at' = atV fs at' := by unfold tabAt; rw [ht]; rfl
    rw [hv]
    clear ht hv hkept
    by_cases hr : 1 ≤ at' ∧ at' ≤ 6 + n
    · obtain ⟨k, hk⟩ : ∃ k : Nat, at' = (k : Int) + 1 := ⟨(at' - 1).toNat, by omega⟩
      subst hk
      have hkl : k < (fixedL ++ fs).length := by rw [List.length_append, hlen]; show k < 6 + n; omega
      obtain ⟨x, hx⟩ : ∃ x, (fixedL ++ fs)[k] = x := ⟨_, rfl⟩
      have hv : atV fs ((k : Int) + 1) = (x, true) := by
        unfold atV
        rw [if_pos (by rw [hlen]; exact hr), show ((k : Int) + 1 - 1).toNat = k by omega, List.getD_eq_getElem?_getD, List.getElem?_eq_getElem hkl, hx]
        rfl
      rw [hv]
      have hk6 : k < 6 + n := by omega
      have hk6' : (k : Int) < ((6 + n : Nat) : Int) := by omega
      have hk7 : (k : Int) + 1 ≤ ((6 + n : Nat) : Int) := by omega
      have hk8 : 1 ≤ (k : Int) + 1 := by omega
      have HXX : Hid ((fixedL ++ fs)[k] = x) := hx
      clear hv hr hx
      unfold Fd.val
      go_enter Try.func128, Try.ntmps128
      go_wp2_with (first | (go_at_call 31; refine (hok _ (HF.out.below hb2)).mono ?_; clear hok; rintro e w1 ⟨rfl, hb1⟩; have hR1 := (hb1.block _ (Array.getElem?_eq_some_iff.1 hR.out).1).trans hR.out; have hT1 := (hb1.block _ (Array.getElem?_eq_some_iff.1 hT.out).1).trans hT.out; have t0 := cell_of_row _ _ 0 _ _ _ hT1; have t1 := cell_of_row _ _ 1 _ _ _ hT1; have hbw1 := hb2.trans (hb1.mono hb2.size)) | (go_at_call 133; refine (hpls _ (HF.out.below hbw1)).mono ?_; clear hpls; rintro e w4 ⟨a', c', rfl, hown4, hb4⟩; have hR4 := (hb4.block _ (Array.getElem?_eq_some_iff.1 hR1).1).trans hR1; have hFs4 := own_Fs hown4; obtain ⟨g, o, rfl⟩ := hFs4.some' (by omega); obtain ⟨c0, c1, c2⟩ := hFs4.at k hkl; rw [HXX.out] at c0 c1 c2) | (refine wpList_store_row rfl 107 _ _ rfl (w.heap.size + 1) #[.string x.n, .string x.v, .bool x.q] rfl rfl 107 _ hR4 infoF3 rfl (by simp [Value.oneCell']) ?_))
      refine bodyPost_ret (results_cell_tmp rfl _ _ (w.heap.size + 1) #[.string x.n, .string x.v, .bool x.q] rfl (load_fld (setRow_heap _ _ _ _ _ _ hR4))) rfl ⟨rfl, (hbw1.trans (hb4.mono hbw1.size)).grown (grown_setRowT _ _ _) (Nat.le_trans hbw1.size hb4.size) (fun q hq => by injection hq with hq; omega)⟩
    · have hv : atV fs at' = (⟨⟨#[]⟩, ⟨#[]⟩, false⟩, false) := by unfold atV; rw [if_neg (by rw [hlen]; exact hr)]
      rw [hv]
      clear hv
      unfold Fd.val
      have h2 : at' < 1 ∨ (1 ≤ at' ∧ ((6 + n : Nat) : Int) < at') := by omega
      clear hr
      rcases h2 with h2 | ⟨h2, h3⟩
      all_goals
        go_enter Try.func128, Try.ntmps128
        go_wp2_with (first | (go_at_call 31; refine (hok _ (HF.out.below hb2)).mono ?_; clear hok; rintro e w1 ⟨rfl, hb1⟩; have hR1 := (hb1.block _ (Array.getElem?_eq_some_iff.1 hR.out).1).trans hR.out; have hT1 := (hb1.block _ (Array.getElem?_eq_some_iff.1 hT.out).1).trans hT.out; have t0 := cell_of_row _ _ 0 _ _ _ hT1; have t1 := cell_of_row _ _ 1 _ _ _ hT1; have hbw1 := hb2.trans (hb1.mono hb2.size)) | (go_at_call 133; refine (hpls _ (HF.out.below hbw1)).mono ?_; clear hpls; rintro e w4 ⟨a', c', rfl, hown4, hb4⟩; have hR4 := (hb4.block _ (Array.getElem?_eq_some_iff.1 hR1).1).trans hR1) | (refine wpList_store_row rfl 107 _ _ rfl (w.heap.size + 1) #[.string ⟨#[]⟩, .string ⟨#[]⟩, .bool false] rfl rfl 107 _ hR4 infoF3 rfl (by simp [Value.oneCell']) ?_))
        refine bodyPost_ret (results_cell_tmp rfl _ _ (w.heap.size + 1) #[.string ⟨#[]⟩, .string ⟨#[]⟩, .bool false] rfl (load_fld (setRow_heap _ _ _ _ _ _ hR4))) rfl ⟨rfl, (hbw1.trans (hb4.mono hbw1.size)).grown (grown_setRowT _ _ _) (Nat.le_trans hbw1.size hb4.size) (fun q hq => by injection hq with hq; omega)⟩
end Go.Proofs.Ytghgcobnmmommaa

namespace Go.Proofs.Ytghgcobnmmommaa
open Go.RowKit
set_option linter.unusedVariables false

set_option maxRecDepth 100000 in
set_option maxHeartbeats 1000000 in
theorem implTableFind (fs : List Fd) (a : Option Addr) (n cap : Nat) (max : Int) (f : Fd) (w : World) (hf : Fs w a n cap fs) (hbd : fsBd fs) (hn : n ≤ 1048576) (h1 : f.n.size ≤ 1048576) (h2 : f.v.size ≤ 1048576) :
    Calls Try.prog 127 #[.agg #[.slice a n cap, .int .i64 max], f.val] w fun e w' => e = .returned (.tuple #[.int .i64 (tabFind fs max f).1, .bool (tabFind fs max f).2]) ∧ Below w.heap.size w w' := by
  have hok := fun (w' : World) (h : Fs w' a n cap fs) => implTableOk fs a n cap max w' h hbd hn
  have hfo := fun (w' : World) => implFieldOk f w' h1 h2
  have HF : Hid (Fs w a n cap fs) := hf
  have hlen := hf.len
  clear hf hbd
  have hb2 : Below w.heap.size w ((w.alloc (.cells #[.slice a n cap, .int .i64 max] 26)).alloc (.cells #[.string f.n, .string f.v, .bool f.q] 107)) := ((Below.refl _ _).alloc (Nat.le_refl _) _).alloc (by simp) _
  have hT : Hid (((w.alloc (.cells #[.slice a n cap, .int .i64 max] 26)).alloc (.cells #[.string f.n, .string f.v, .bool f.q] 107)).heap[w.heap.size]? = some (.cells #[.slice a n cap, .int .i64 max] 26 (0, 0))) := blkT (heap_alloc_last w _) _
  have hR : Hid (((w.alloc (.cells #[.slice a n cap, .int .i64 max] 26)).alloc (.cells #[.string f.n, .string f.v, .bool f.q] 107)).heap[w.heap.size + 1]? = some (.cells #[.string f.n, .string f.v, .bool f.q] 107 (0, 0))) := by
    have h := heap_alloc_last (w.alloc (.cells #[.slice a n cap, .int .i64 max] 26)) (.cells #[.string f.n, .string f.v, .bool f.q] 107)
    rw [World.size_alloc] at h
    exact h
  cases ht : tOk fs max with
  | false =>
    rw [ht] at hok
    have hv : tabFind fs max f = (0, false) := by unfold tabFind; rw [ht]; rfl
    rw [hv]
    unfold Fd.val
    clear ht hv hfo
    go_enter Try.func127, Try.ntmps127
    go_wp2_with (go_at_call 31; refine (hok _ (HF.out.below hb2)).mono ?_; clear hok; rintro e w1 ⟨rfl, hb1⟩)
    go_ret2
    exact ⟨rfl, hb2.trans (hb1.mono hb2.size)⟩
  | true =>
    rw [ht] at hok
    have hkept := tOk_kept ht
    have hl16 := tOk_len ht
    cases hfk : fOk f with
    | false =>
      rw [hfk] at hfo
      have hv : tabFind fs max f = (0, false) := by unfold tabFind; rw [ht, hfk]; rfl
      rw [hv]
      unfold Fd.val at hfo ⊢
      clear ht hv hfk
      go_enter Try.func127, Try.ntmps127
      go_wp2_with (first | (go_at_call 31; refine (hok _ (HF.out.below hb2)).mono ?_; clear hok; rintro e w1 ⟨rfl, hb1⟩; have hR1 := (hb1.block _ (Array.getElem?_eq_some_iff.1 hR.out).1).trans hR.out; have r0 := cell_of_row _ _ 0 _ _ _ hR1; have r1 := cell_of_row _ _ 1 _ _ _ hR1; have r2 := cell_of_row _ _ 2 _ _ _ hR1; have hbw1 := hb2.trans (hb1.mono hb2.size)) | (go_at_call 70; refine (hfo _).mono ?_; clear hfo; rintro e w2 ⟨rfl, hb3⟩))
      go_ret2
      exact ⟨rfl, hbw1.trans (hb3.mono hbw1.size)⟩
    | true =>
      rw [hfk] at hfo
      have hv : tabFind fs max f = findV fs f := by unfold tabFind; rw [ht, hfk]; rfl
      rw [hv]
      have hpl := fun (w' : World) (h : Fs w' a n cap fs) => tablePlaces_any fs a n cap max w' h hkept (by omega)
      have hv2 : findV fs f = if flP f (fixedL ++ fs) 0 = 0 then (nmP f.n (fixedL ++ fs) 0, false) else (flP f (fixedL ++ fs) 0, true) := rfl
      obtain ⟨L, hL⟩ : ∃ L, fixedL ++ fs = L := ⟨_, rfl⟩
      have hLl : L.length = 6 + n := by rw [← hL, List.length_append, hlen]; rfl
      rw [hL] at hpl hv2
      have HV : Hid (findV fs f = if flP f L 0 = 0 then (nmP f.n L 0, false) else (flP f L 0, true)) := hv2
      obtain ⟨R, hR'⟩ : ∃ R, findV fs f = R := ⟨_, rfl⟩
      rw [hR'] at HV ⊢
      clear hv2 hL hR' hv ht hfk hkept
      unfold Fd.val at hfo ⊢
      go_enter Try.func127, Try.ntmps127
      go_wp2_with (first | (go_at_call 31; refine (hok _ (HF.out.below hb2)).mono ?_; clear hok; rintro e w1 ⟨rfl, hb1⟩; have hR1 := (hb1.block _ (Array.getElem?_eq_some_iff.1 hR.out).1).trans hR.out; have hT1 := (hb1.block _ (Array.getElem?_eq_some_iff.1 hT.out).1).trans hT.out; have r0 := cell_of_row _ _ 0 _ _ _ hR1; have r1 := cell_of_row _ _ 1 _ _ _ hR1; have r2 := cell_of_row _ _ 2 _ _ _ hR1; have hbw1 := hb2.trans (hb1.mono hb2.size)) | (go_at_call 70; refine (hfo _).mono ?_; clear hfo; rintro e w2 ⟨rfl, hb3⟩; have hR2 := (hb3.block _ (Array.getElem?_eq_some_iff.1 hR1).1).trans hR1; have hT2 := (hb3.block _ (Array.getElem?_eq_some_iff.1 hT1).1).trans hT1; have t0 := cell_of_row _ _ 0 _ _ _ hT2; have t1 := cell_of_row _ _ 1 _ _ _ hT2; have hbw2 := hbw1.trans (hb3.mono hbw1.size)) | (go_at_call 133; refine (hpl _ (HF.out.below hbw2)).mono ?_; clear hpl; rintro e w3 ⟨a', c', rfl, hown3, hb4⟩))
      have hR3 := (hb4.block _ (Array.getElem?_eq_some_iff.1 hR2).1).trans hR2
      have s0 := cell_of_row _ _ 0 _ _ _ hR3
      have s1 := cell_of_row _ _ 1 _ _ _ hR3
      have hbw : Below w.heap.size w w3 := hbw2.trans (hb4.mono hbw2.size)
      have hFs3 := own_Fs hown3
      obtain ⟨g, o, rfl⟩ := hFs3.some' (by omega)
      have HFS : Hid (Fs w3 (some ⟨g, o, none⟩) (6 + n) c' L) := hFs3
      clear hFs3 hown3 hb2 hR hR1 hR2 hR3 hT hT1 hT2 HF r0 r1 r2 t0 t1 hbw1 hbw2 hb1 hb3 hb4
      go_loopw [6, 20] (fun s i wr => ∃ k m : Nat, k ≤ 6 + n ∧ m ≤ 6 + n ∧ i = .int .i64 k ∧ s = .int .i64 m ∧ ((m = 0 ∧ nmP f.n L 0 = nmP f.n (L.drop k) k) ∨ (0 < m ∧ nmP f.n L 0 = m)) ∧ flP f L 0 = flP f (L.drop k) k ∧ Below w3.heap.size w3 wr) (fun _ i _ => 6 + n - (intOf i).toNat)
      case atStart => exact ⟨0, 0, by omega, by omega, rfl, rfl, .inl ⟨rfl, by rw [List.drop_zero]⟩, by rw [List.drop_zero], Below.refl _ _⟩
      case round =>
        obtain ⟨k, m, hk, hm, rfl, rfl, hnm, hfl, hbel⟩ := hrel
        have HNM : Hid ((m = 0 ∧ nmP f.n L 0 = nmP f.n (L.drop k) k) ∨ (0 < m ∧ nmP f.n L 0 = m)) := hnm
        have HFL : Hid (flP f L 0 = flP f (L.drop k) k) := hfl
        clear hnm hfl
        have HBE : Hid (Below w3.heap.size w3 wr) := hbel
        obtain ⟨x0, x1⟩ := five_two (w := w3) hbel s0 s1
        by_cases hlt : k < 6 + n
        · have hkl : k < L.length := by omega
          obtain ⟨c0, c1, c2⟩ := (HFS.out.below hbel).at k hkl
          have HN : Hid (flP f (L.drop k) k = if L[k].n = f.n ∧ L[k].v = f.v then k + 1 else flP f (L.drop (k + 1)) (k + 1)) := flP_at hkl
          have HM : Hid (nmP f.n (L.drop k) k = if L[k].n = f.n then k + 1 else nmP f.n (L.drop (k + 1)) (k + 1)) := nmP_at hkl
          obtain ⟨x, hx⟩ : ∃ x, L[k] = x := ⟨_, rfl⟩
          rw [hx] at c0 c1 c2 HN HM
          clear hx
          have hk0 : (0 : Int) ≤ k := by omega
          have hk1 : (k : Int) < ((6 + n : Nat) : Int) := by omega
          have hbA : Below w3.heap.size w3 (wr.alloc (.cells #[.string x.n, .string x.v, .bool x.q] 107)) := hbel.alloc hbel.size _
          obtain ⟨z0, z1⟩ := five_two (w := wr) ((Below.refl _ _).alloc (Nat.le_refl _) (.cells #[.string x.n, .string x.v, .bool x.q] 107)) x0 x1
          have hzz : w.heap.size + 1 < wr.heap.size := World.block_lt_of_cell? wr _ x0
          clear hbel
          by_cases he0 : x.n = f.n
          · have hd := eqT he0
            have he : Hid (x.n = f.n) := he0
            clear he0
            by_cases he20 : x.v = f.v
            · have hd2 := eqT he20
              have he2 : Hid (x.v = f.v) := he20
              clear he20
              have HR : Hid (R = (k + 1, true)) := by
                show R = (k + 1, true)
                have h1 : flP f L 0 = k + 1 := by rw [HFL.out, HN.out, if_pos ⟨he.out, he2.out⟩]
                rw [HV.out, if_neg (by omega), h1]
              go_wp2
              go_ret2
              exact ⟨by rw [HR.out]; go_num, hbw.trans (hbA.mono hbw.size)⟩
            · have hd2 := neF he20
              have he2 : Hid (¬ x.v = f.v) := he20
              clear he20
              by_cases hm0 : m = 0
              · subst hm0
                go_wp2
                go_roundw
                case rel => exact ⟨k + 1, k + 1, by omega, by omega, by go_num, by go_num, .inr ⟨by omega, by rcases HNM.out with h | h; (rw [h.2, HM.out, if_pos he.out]); omega⟩, by rw [HFL.out, HN.out, if_neg (fun h => he2.out h.2)], hbA⟩
                case measure => simp [intOf]; omega
              · have hm1 : ((m : Int) == 0) = false := by simp; omega
                go_wp2
                go_roundw
                case rel => exact ⟨k + 1, m, by omega, by omega, by go_num, rfl, .inr ⟨by omega, by rcases HNM.out with h | h; omega; exact h.2⟩, by rw [HFL.out, HN.out, if_neg (fun h => he2.out h.2)], hbA⟩
                case measure => simp [intOf]; omega
          · have hd := neF he0
            have he : Hid (¬ x.n = f.n) := he0
            clear he0
            go_wp2
            go_roundw
            case rel => exact ⟨k + 1, m, by omega, by omega, by go_num, rfl, by rcases HNM.out with h | h; exact .inl ⟨h.1, by rw [h.2, HM.out, if_neg he.out]⟩; exact .inr h, by rw [HFL.out, HN.out, if_neg (fun h => he.out h.1)], hbA⟩
            case measure => simp [intOf]; omega
        · have HR : Hid (R = (m, false)) := by
            show R = (m, false)
            have h1 : flP f L 0 = 0 := by rw [HFL.out, List.drop_of_length_le (by omega)]; rfl
            have h2 : nmP f.n L 0 = m := by
              rcases HNM.out with h | h
              · rw [h.2, List.drop_of_length_le (by omega), h.1]; rfl
              · exact h.2
            rw [HV.out, if_pos h1, h2]
          go_wp2
          go_ret2
          exact ⟨by rw [HR.out]; rfl, hbw.trans (hbel.mono hbw.size)⟩
end Go.Proofs.Ytghgcobnmmommaa
