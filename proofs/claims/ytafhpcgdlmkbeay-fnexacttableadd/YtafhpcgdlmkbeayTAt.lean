import Derived.Test.YtafhpcgdlmkbeayTAdd
namespace Go.Proofs.Ytafhpcgdlmkbeay
open Go.RowKit
set_option linter.unusedVariables false

/-- The fixed fields. -/
def fixedL : List Fd := [⟨⟨#[58, 112, 97, 116, 104]⟩, ⟨#[]⟩, false⟩, ⟨⟨#[58, 115, 116, 97, 116, 117, 115]⟩, ⟨#[48]⟩, false⟩, ⟨⟨#[58, 115, 116, 97, 116, 117, 115]⟩, ⟨#[49, 50]⟩, false⟩, ⟨⟨#[107, 105, 110, 100]⟩, ⟨#[116, 101, 120, 116]⟩, false⟩, ⟨⟨#[115, 105, 122, 101]⟩, ⟨#[]⟩, false⟩, ⟨⟨#[116, 101]⟩, ⟨#[116, 114, 97, 105, 108, 101, 114, 115]⟩, false⟩]
theorem own_new (w : World) (base : Nat) (e : TypeId) (size n : Nat) (xs : List Value) (hb : base ≤ w.heap.size) (hn : n ≤ maxLen) (hl : xs.length = n * size) : (w.alloc (.cells xs.toArray e)).ownsRow base e size (.slice (some ⟨w.heap.size, 0, none⟩) n n) n xs :=
  ⟨hl, .inr ⟨w.heap.size, n, xs.toArray, rfl, hb, by show (w.heap.push _)[w.heap.size]? = _; simp, Nat.le_refl _, hn, by simp [hl], by simp [← hl]⟩⟩
set_option maxRecDepth 100000 in
set_option maxHeartbeats 400000 in
theorem specTableFixed (w : World) :
    Calls Try.prog 63 #[] w fun e w' => ∃ a c, e = .returned (.slice a 6 c) ∧ w'.ownsRow w.heap.size 37 3 (.slice a 6 c) 6 (cellsF fixedL) ∧ Below w.heap.size w w' := by
  go_enter Try.func63, Try.ntmps63
  go_wp2
  go_ret
  exact ⟨_, _, rfl, own_new w w.heap.size 37 3 6 (cellsF fixedL) (Nat.le_refl _) (by decide) rfl, (Below.refl _ _).alloc (Nat.le_refl _) _⟩
theorem five_two {w w1 w2 : World} {B : Nat} {x y : Value} (hb : Below w1.heap.size w1 w2) (h0 : w1.cell? ⟨B, 0, none⟩ = some x) (h1 : w1.cell? ⟨B, 1, none⟩ = some y) : w2.cell? ⟨B, 0, none⟩ = some x ∧ w2.cell? ⟨B, 1, none⟩ = some y :=
  ⟨(hb.cell (p := ⟨B, 0, none⟩) (World.block_lt_of_cell? w1 _ h0)).trans h0, (hb.cell (p := ⟨B, 1, none⟩) (World.block_lt_of_cell? w1 _ h1)).trans h1⟩
set_option maxRecDepth 100000 in
set_option maxHeartbeats 1000000 in
theorem l3All_any (fs : List Fd) (a : Option Addr) (n cap : Nat) (max : Int) (w : World) (hf : Fs w a n cap fs) (hn : n ≤ 1048576) :
    Calls Try.prog 57 #[.agg #[.slice a n cap, .int .i64 max]] w fun e w' => ∃ a' c', e = .returned (.slice a' (6 + n) c') ∧ w'.ownsRow w.heap.size 37 3 (.slice a' (6 + n) c') (6 + n) (cellsF (fixedL ++ fs)) ∧ Below w.heap.size w w' := by
  have HF : Hid (Fs w a n cap fs) := hf
  clear hf
  have hb1 : Below w.heap.size w (w.alloc (.cells #[.slice a n cap, .int .i64 max] 29)) := (Below.refl _ _).alloc (Nat.le_refl _) _
  have hT : Hid ((w.alloc (.cells #[.slice a n cap, .int .i64 max] 29)).heap[w.heap.size]? = some (.cells #[.slice a n cap, .int .i64 max] 29 (0, 0))) := heap_alloc_last w _
  have hmx : Try.prog.follows .mixedOrders = true := by kernel_rfl
  go_enter Try.func57, Try.ntmps57
  go_wp2
  obtain ⟨W0, hW0⟩ : ∃ W0, (w.alloc (.cells #[.slice a n cap, .int .i64 max] 29)) = W0 := ⟨_, rfl⟩
  rw [hW0] at hb1 hT ⊢
  clear hW0
  have hbd : Below w.heap.size w W0.drew := hb1.drew
  have hFd : Fs W0.drew a n cap fs := HF.out.below hbd
  have hTd : W0.drew.heap[w.heap.size]? = some (.cells #[.slice a n cap, .int .i64 max] 29 (0, 0)) := hT.out
  have q0 := cell_of_row _ _ 0 _ _ _ hTd
  go_region_held3 (fun w' => w'.cell? ⟨w.heap.size, 0, none⟩ = some (.slice a n cap)) (first | exact q0 | exact q1 | exact q2) ((first | (go_at_call 63; refine (specTableFixed _).mono ?_; rintro e w1 ⟨a1, c1, rfl, hown1, hbx⟩; have hT1 := (hbx.block _ (Array.getElem?_eq_some_iff.1 hTd).1).trans hTd; have q1 := cell_of_row _ _ 0 _ _ _ hT1; have hbw1 := hbd.trans (hbx.mono hbd.size)) | (refine step_appFs _ (by rfl) _ _ (by rfl) w.heap.size _ _ _ (by rfl) (own_baseT hown1 hbd.size) a n cap fs (by rfl) (hFd.below hbx) (by omega) hbw1.size ?_; intro v4 w4 hown4 hgrow4; obtain ⟨a4, c4, rfl⟩ := own_formT hown4; have hT4 := (hgrow4.block _ (Array.getElem?_eq_some_iff.1 hT1).1 (not_rowT hT1 (by decide) hown1)).trans hT1; have q2 := cell_of_row _ _ 0 _ _ _ hT4)))
  go_wp2
  go_ret
  exact ⟨_, _, rfl, by rw [cellsF_append]; exact hown4, hbw1.grown hgrow4 hbw1.size (fun q hq => ((own_baseT hown1 hbd.size).lt q hq).1)⟩

/-- What TableAt answers of an ok table. -/
def atV (fs : List Fd) (at' : Int) : Fd × Bool := if 1 ≤ at' ∧ at' ≤ 6 + fs.length then ((fixedL ++ fs).getD (at' - 1).toNat ⟨⟨#[]⟩, ⟨#[]⟩, false⟩, true) else (⟨⟨#[]⟩, ⟨#[]⟩, false⟩, false)
theorem infoF3 : (Try.prog.info? 37).map (·.size) = some 3 := by kernel_rfl
theorem results_cell_tmp {fn : Func} {p q : Tmp} {ty : TypeId} (h : fn.results = #[.cell p ty, .tmp q]) (tmps : Array Value) (w : World) (g : Nat) (cs : Array Value)
    (hp : tmps.getD p undef = .pointer (some ⟨g, 0, none⟩)) (hl : (loadVar ty ⟨g, 0, none⟩).run Try.prog w = .ok (.agg cs) w) :
    (results fn tmps).run Try.prog w = .ok (.tuple #[.agg cs, tmps.getD q undef]) w := by
  have hp' : tmps[p]?.getD undef = .pointer (some ⟨g, 0, none⟩) := by simpa using hp
  simp [results, h, hp', asAddr, hl]
theorem load_fld {w : World} {g : Nat} {x y z : Value} (hg : w.heap[g]? = some (.cells #[x, y, z] 37 (0, 0))) : (loadVar 37 ⟨g, 0, none⟩).run Try.prog w = .ok (.agg #[x, y, z]) w :=
  run_loadVar_row w g 37 37 #[x, y, z] (0, 0) _ hg Try.underlying37 rfl infoF3

set_option maxRecDepth 100000 in
set_option maxHeartbeats 1000000 in
theorem l3At_any (fs : List Fd) (a : Option Addr) (n cap : Nat) (max at' : Int) (w : World) (hf : Fs w a n cap fs) (hn : n ≤ 1048576) :
    Calls Try.prog 43 #[.agg #[.slice a n cap, .int .i64 max], .int .i64 at'] w fun e w' => e = .returned (.tuple #[(atV fs at').1.val, .bool (atV fs at').2]) ∧ Below w.heap.size w w' := by
  have hall := fun (w' : World) (h : Fs w' a n cap fs) => l3All_any fs a n cap max w' h hn
  have hin := fun (w' : World) => l6In_any at' 1 ((6 + n : Nat) : Int) w'
  have HF : Hid (Fs w a n cap fs) := hf
  have hlen := hf.len
  clear hf
  have hb2 : Below w.heap.size w ((w.alloc (.cells #[.slice a n cap, .int .i64 max] 29)).alloc (.cells #[.string ⟨#[]⟩, .string ⟨#[]⟩, .bool false] 37)) := ((Below.refl _ _).alloc (Nat.le_refl _) _).alloc (by simp) _
  have hR : Hid (((w.alloc (.cells #[.slice a n cap, .int .i64 max] 29)).alloc (.cells #[.string ⟨#[]⟩, .string ⟨#[]⟩, .bool false] 37)).heap[w.heap.size + 1]? = some (.cells #[.string ⟨#[]⟩, .string ⟨#[]⟩, .bool false] 37 (0, 0))) := by
    have h := heap_alloc_last (w.alloc (.cells #[.slice a n cap, .int .i64 max] 29)) (.cells #[.string ⟨#[]⟩, .string ⟨#[]⟩, .bool false] 37)
    rw [World.size_alloc] at h
    exact h
  by_cases hr : 1 ≤ at' ∧ at' ≤ 6 + n
  · obtain ⟨k, hk⟩ : ∃ k : Nat, at' = (k : Int) + 1 := ⟨(at' - 1).toNat, by omega⟩
    subst hk
    have hkl : k < (fixedL ++ fs).length := by rw [List.length_append, hlen]; show k < 6 + n; omega
    obtain ⟨x, hx⟩ : ∃ x, (fixedL ++ fs)[k] = x := ⟨_, rfl⟩
    have hv : atV fs ((k : Int) + 1) = (x, true) := by
      unfold atV
      rw [if_pos (by rw [hlen]; exact hr), show ((k : Int) + 1 - 1).toNat = k by omega, List.getD_eq_getElem?_getD, List.getElem?_eq_getElem hkl, hx]
      rfl
    rw [hv]
    have hi : (decide (1 ≤ (k : Int) + 1) && decide ((k : Int) + 1 ≤ ((6 + n : Nat) : Int))) = true := by
      rw [decide_eq_true (by omega : 1 ≤ (k : Int) + 1), decide_eq_true (by omega : (k : Int) + 1 ≤ ((6 + n : Nat) : Int))]; rfl
    rw [hi] at hin
    have hk6 : k < 6 + n := by omega
    have hk6' : (k : Int) < ((6 + n : Nat) : Int) := by omega
    have HXX : Hid ((fixedL ++ fs)[k] = x) := hx
    clear hv hi hr hx
    unfold Fd.val
    go_enter Try.func43, Try.ntmps43
    go_wp2_with (first | (go_at_call 57; refine (hall _ (HF.out.below hb2)).mono ?_; clear hall; rintro e w1 ⟨a', c', rfl, hown1, hb1⟩; have hR1 := (hb1.block _ (Array.getElem?_eq_some_iff.1 hR.out).1).trans hR.out; have hFs1 := own_Fs hown1; obtain ⟨g, o, rfl⟩ := hFs1.some' (by omega); obtain ⟨c0, c1, c2⟩ := hFs1.at k hkl; rw [HXX.out] at c0 c1 c2) | (go_at_call 28; refine (hin _).mono ?_; clear hin; rintro e wi ⟨rfl, rfl⟩) | (refine wpList_store_row rfl 37 _ _ rfl (w.heap.size + 1) #[.string x.n, .string x.v, .bool x.q] rfl rfl 37 _ hR1 infoF3 rfl (by simp [Value.oneCell']) ?_))
    refine bodyPost_ret (results_cell_tmp rfl _ _ (w.heap.size + 1) #[.string x.n, .string x.v, .bool x.q] rfl (load_fld (setRow_heap _ _ _ _ _ _ hR1))) rfl ⟨rfl, (hb2.trans (hb1.mono hb2.size)).grown (grown_setRowT _ _ _) (Nat.le_trans hb2.size hb1.size) (fun q hq => by injection hq with hq; omega)⟩
  · have hv : atV fs at' = (⟨⟨#[]⟩, ⟨#[]⟩, false⟩, false) := by unfold atV; rw [if_neg (by rw [hlen]; exact hr)]
    rw [hv]
    have hi : (decide (1 ≤ at') && decide (at' ≤ ((6 + n : Nat) : Int))) = false := by
      by_cases h1 : 1 ≤ at'
      · rw [decide_eq_false (by omega : ¬ at' ≤ ((6 + n : Nat) : Int)), Bool.and_false]
      · rw [decide_eq_false h1, Bool.false_and]
    rw [hi] at hin
    clear hv hi hr
    unfold Fd.val
    go_enter Try.func43, Try.ntmps43
    go_wp2_with (first | (go_at_call 57; refine (hall _ (HF.out.below hb2)).mono ?_; clear hall; rintro e w1 ⟨a', c', rfl, hown1, hb1⟩; have hR1 := (hb1.block _ (Array.getElem?_eq_some_iff.1 hR.out).1).trans hR.out) | (go_at_call 28; refine (hin _).mono ?_; clear hin; rintro e wi ⟨rfl, rfl⟩) | (refine wpList_store_row rfl 37 _ _ rfl (w.heap.size + 1) #[.string ⟨#[]⟩, .string ⟨#[]⟩, .bool false] rfl rfl 37 _ hR1 infoF3 rfl (by simp [Value.oneCell']) ?_))
    refine bodyPost_ret (results_cell_tmp rfl _ _ (w.heap.size + 1) #[.string ⟨#[]⟩, .string ⟨#[]⟩, .bool false] rfl (load_fld (setRow_heap _ _ _ _ _ _ hR1))) rfl ⟨rfl, (hb2.trans (hb1.mono hb2.size)).grown (grown_setRowT _ _ _) (Nat.le_trans hb2.size hb1.size) (fun q hq => by injection hq with hq; omega)⟩

/-- What TableAt answers. -/
def tabAt (fs : List Fd) (max at' : Int) : Fd × Bool := if tOk fs max then atV fs at' else (⟨⟨#[]⟩, ⟨#[]⟩, false⟩, false)
set_option maxRecDepth 100000 in
set_option maxHeartbeats 1000000 in
theorem specTableAt (fs : List Fd) (a : Option Addr) (n cap : Nat) (max at' : Int) (w : World) (hf : Fs w a n cap fs) (hbd : fsBd fs) (hn : n ≤ 1048576) :
    Calls Try.prog 21 #[.agg #[.slice a n cap, .int .i64 max], .int .i64 at'] w fun e w' => e = .returned (.tuple #[(tabAt fs max at').1.val, .bool (tabAt fs max at').2]) ∧ Below w.heap.size w w' := by
  have hok := fun (w' : World) (h : Fs w' a n cap fs) => specTableOk fs a n cap max w' h hbd hn
  have hat := fun (w' : World) (h : Fs w' a n cap fs) => l3At_any fs a n cap max at' w' h hn
  have HF : Hid (Fs w a n cap fs) := hf
  clear hf hbd
  have hb2 : Below w.heap.size w ((w.alloc (.cells #[.slice a n cap, .int .i64 max] 29)).alloc (.cells #[.string ⟨#[]⟩, .string ⟨#[]⟩, .bool false] 37)) := ((Below.refl _ _).alloc (Nat.le_refl _) _).alloc (by simp) _
  have hT : Hid (((w.alloc (.cells #[.slice a n cap, .int .i64 max] 29)).alloc (.cells #[.string ⟨#[]⟩, .string ⟨#[]⟩, .bool false] 37)).heap[w.heap.size]? = some (.cells #[.slice a n cap, .int .i64 max] 29 (0, 0))) := blkT (heap_alloc_last w _) _
  have hR : Hid (((w.alloc (.cells #[.slice a n cap, .int .i64 max] 29)).alloc (.cells #[.string ⟨#[]⟩, .string ⟨#[]⟩, .bool false] 37)).heap[w.heap.size + 1]? = some (.cells #[.string ⟨#[]⟩, .string ⟨#[]⟩, .bool false] 37 (0, 0))) := by
    have h := heap_alloc_last (w.alloc (.cells #[.slice a n cap, .int .i64 max] 29)) (.cells #[.string ⟨#[]⟩, .string ⟨#[]⟩, .bool false] 37)
    rw [World.size_alloc] at h
    exact h
  cases ht : tOk fs max with
  | false =>
    rw [ht] at hok
    have hv : tabAt fs max at' = (⟨⟨#[]⟩, ⟨#[]⟩, false⟩, false) := by unfold tabAt; rw [ht]; rfl
    rw [hv]
    unfold Fd.val
    clear ht hv hat
    go_enter Try.func21, Try.ntmps21
    go_wp2_with (first | (go_at_call 9; refine (hok _ (HF.out.below hb2)).mono ?_; clear hok; rintro e w1 ⟨rfl, hb1⟩; have hR1 := (hb1.block _ (Array.getElem?_eq_some_iff.1 hR.out).1).trans hR.out) | (refine wpList_store_row rfl 37 _ _ rfl (w.heap.size + 1) #[.string ⟨#[]⟩, .string ⟨#[]⟩, .bool false] rfl rfl 37 _ hR1 infoF3 rfl (by simp [Value.oneCell']) ?_))
    refine bodyPost_ret (results_cell_tmp rfl _ _ (w.heap.size + 1) #[.string ⟨#[]⟩, .string ⟨#[]⟩, .bool false] rfl (load_fld (setRow_heap _ _ _ _ _ _ hR1))) rfl ⟨rfl, (hb2.trans (hb1.mono hb2.size)).grown (grown_setRowT _ _ _) (Nat.le_trans hb2.size hb1.size) (fun q hq => by injection hq with hq; omega)⟩
  | true =>
    rw [ht] at hok
    have hv : tabAt fs max at' = atV fs at' := by unfold tabAt; rw [ht]; rfl
    rw [hv]
    obtain ⟨⟨x, b⟩, hx⟩ : ∃ r, atV fs at' = r := ⟨_, rfl⟩
    rw [hx] at hat ⊢
    unfold Fd.val at hat ⊢
    clear ht hv hx
    go_enter Try.func21, Try.ntmps21
    go_wp2_with (first | (go_at_call 9; refine (hok _ (HF.out.below hb2)).mono ?_; clear hok; rintro e w1 ⟨rfl, hb1⟩; have hR1 := (hb1.block _ (Array.getElem?_eq_some_iff.1 hR.out).1).trans hR.out; have hT1 := (hb1.block _ (Array.getElem?_eq_some_iff.1 hT.out).1).trans hT.out; have t0 := cell_of_row _ _ 0 _ _ _ hT1; have t1 := cell_of_row _ _ 1 _ _ _ hT1; have hbw1 := hb2.trans (hb1.mono hb2.size)) | (go_at_call 43; refine (hat _ (HF.out.below hbw1)).mono ?_; clear hat; rintro e w4 ⟨rfl, hb4⟩; have hR4 := (hb4.block _ (Array.getElem?_eq_some_iff.1 hR1).1).trans hR1) | (refine wpList_store_row rfl 37 _ _ rfl (w.heap.size + 1) #[.string x.n, .string x.v, .bool x.q] rfl rfl 37 _ hR4 infoF3 rfl (by simp [Value.oneCell']) ?_))
    refine bodyPost_ret (results_cell_tmp rfl _ _ (w.heap.size + 1) #[.string x.n, .string x.v, .bool x.q] rfl (load_fld (setRow_heap _ _ _ _ _ _ hR4))) rfl ⟨rfl, (hbw1.trans (hb4.mono hbw1.size)).grown (grown_setRowT _ _ _) (Nat.le_trans hbw1.size hb4.size) (fun q hq => by injection hq with hq; omega)⟩
end Go.Proofs.Ytafhpcgdlmkbeay
