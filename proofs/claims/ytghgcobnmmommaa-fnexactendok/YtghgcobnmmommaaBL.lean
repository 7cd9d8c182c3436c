import Derived.Test.YtghgcobnmmommaaBK
import Derived.Test.YtghgcobnmmommaaBJ
import Derived.Test.YtghgcobnmmommaaBB
namespace Go.Proofs.Ytghgcobnmmommaa
open Go.RowKit
set_option linter.unusedVariables false

theorem Rg.base {base base' : Nat} {w : World} {B g R fi : Nat} {L : List Fd} (h : Rg base w B g R fi L) (hb : base' ≤ base) : Rg base' w B g R fi L :=
  ⟨h.head, h.places, Nat.le_trans hb h.hB, Nat.le_trans hb h.hg, h.ne, h.fiR, h.le, h.rm⟩
/-- Fields as tables keep them. -/
def fsKept (fs : List Fd) : Prop := ∀ f ∈ fs, f.q = false ∧ f.n.size ≤ 16 ∧ f.v.size ≤ 16
theorem fsKept.bd {fs : List Fd} (h : fsKept fs) : fsBd fs := fun f hf => ⟨by have := (h f hf).2.1; omega, by have := (h f hf).2.2; omega⟩

set_option maxRecDepth 100000 in
set_option maxHeartbeats 1000000 in
theorem tableRing_any (fs : List Fd) (a : Option Addr) (n cap : Nat) (max : Int) (w : World) (hf : Fs w a n cap fs) (hk : fsKept fs) (hn : n ≤ 900) :
    Calls Try.prog 109 #[.agg #[.slice a n cap, .int .i64 max]] w fun e w' => ∃ B g fi, e = .returned (.pointer (some ⟨B, 0, none⟩)) ∧ Rg w.heap.size w' B g (n + 1) fi fs ∧ Below w.heap.size w w' := by
  have HF : Hid (Fs w a n cap fs) := hf
  have HK : Hid (fsKept fs) := hk
  have hlen := hf.len
  clear hf hk
  have hb0 : Below w.heap.size w (w.alloc (.cells #[.slice a n cap, .int .i64 max] 26)) := (Below.refl _ _).alloc (Nat.le_refl _) _
  have hnew := fun w => newRing_any (n + 1) w (by omega) (by omega)
  rw [show ((n + 1 : Nat) : Int) = (n : Int) + 1 by omega] at hnew
  go_enter Try.func109, Try.ntmps109
  go_wp2_with (go_at_call 118; refine (hnew _).mono ?_; clear hnew; rintro e w1 ⟨rfl, hR1, hb1⟩; have t0 : w1.cell? ⟨w.heap.size, 0, none⟩ = some (.slice a n cap) := (by rw [hb1.cell (p := ⟨w.heap.size, 0, none⟩) (by simp)]; simp))
  have hR1' : Rg w.heap.size w1 (w.heap.size + 1 + 1) (w.heap.size + 1) (n + 1) 0 [] := by
    have h := hR1.base (base' := w.heap.size) (by simp)
    rw [World.size_alloc] at h
    exact h
  have hb1' : Below w.heap.size w w1 := hb0.trans (hb1.mono (by simp))
  clear hR1 hb1 hb0 t0
  go_loopw [14] (fun i wr => ∃ k : Nat, k ≤ n ∧ i = .int .i64 k ∧ Rg w.heap.size wr (w.heap.size + 1 + 1) (w.heap.size + 1) (n + 1) 0 (fs.take k) ∧ Below w.heap.size w wr) (fun i _ => n - (intOf i).toNat)
  case atStart => exact ⟨0, by omega, rfl, by rw [List.take_zero]; exact hR1', hb1'⟩
  case round =>
    clear hR1' hb1'
    obtain ⟨k, hkn, rfl, hR, hbel⟩ := hrel
    have HR : Hid (Rg w.heap.size wr (w.heap.size + 1 + 1) (w.heap.size + 1) (n + 1) 0 (fs.take k)) := hR
    have HBE : Hid (Below w.heap.size w wr) := hbel
    clear hR hbel
    by_cases hlt : k < n
    · have hlt' : (k : Int) < n := by omega
      have hkl : k < fs.length := by omega
      obtain ⟨g, o, rfl⟩ := HF.out.some' (by omega)
      obtain ⟨f, hff⟩ : ∃ f, fs[k] = f := ⟨_, rfl⟩
      obtain ⟨c0, c1, c2⟩ := (HF.out.below HBE.out).at k hkl
      rw [hff] at c0 c1 c2
      obtain ⟨fq, f1, f2⟩ := HK.out f (by rw [← hff]; exact List.getElem_mem hkl)
      have hkept := fun w => fieldKept_any f w f1 f2
      have HT : Hid (fs.take (k + 1) = fs.take k ++ [f]) := by show fs.take (k + 1) = fs.take k ++ [f]; rw [List.take_succ_eq_append_getElem hkl, hff]
      have hfe : (⟨f.n, f.v, false⟩ : Fd) = f := by cases f; simp at fq; subst fq; rfl
      rw [hfe] at hkept
      have hlast := fun (w' : World) (h : Rg w.heap.size w' (w.heap.size + 1 + 1) (w.heap.size + 1) (n + 1) 0 (fs.take k)) (hb : w.heap.size ≤ w'.heap.size) => addLast_any w.heap.size (w.heap.size + 1 + 1) (w.heap.size + 1) (n + 1) 0 (fs.take k) f w' h (by rw [List.length_take]; omega) hb
      unfold Fd.val at hkept hlast
      have hRA := HR.out.below ((Below.refl wr.heap.size wr).alloc (Nat.le_refl _) (.cells #[.string f.n, .string f.v, .bool f.q] 107))
      have hBA : Below w.heap.size w (wr.alloc (.cells #[.string f.n, .string f.v, .bool f.q] 107)) := HBE.out.alloc HBE.out.size _
      have HRA : Hid _ := hRA
      have HBA : Hid _ := hBA
      clear hff hkl hfe fq hRA hBA
      go_wp2_with (first | (go_at_call 120; refine (hkept _).mono ?_; clear hkept; rintro e w2 ⟨rfl, hb2⟩; have hR2 := HRA.out.below hb2; have hB2 := HBA.out.trans (hb2.mono HBA.out.size)) | (go_at_call 119; refine (hlast _ hR2 hB2.size).mono ?_; clear hlast; rintro e w3 ⟨rfl, hR3, hb3⟩))
      go_roundw
      case rel => exact ⟨k + 1, by omega, by go_num, by rw [HT.out]; exact hR3, hB2.trans hb3⟩
      case measure => simp [intOf]; omega
    · have hall : fs.take k = fs := List.take_of_length_le (by omega)
      rw [hall] at HR
      clear hall
      go_wp2
      go_ret
      exact ⟨_, _, _, rfl, HR.out, HBE.out⟩

theorem keptHeap {w wr w2 : World} {o : Obj} {r B : Nat} (h : ∀ r, r < wr.heap.size → r ≠ B → w2.heap[r]? = wr.heap[r]?) (hr : wr.heap[r]? = some o) (hne : r ≠ B) : w2.heap[r]? = some o := (h r (Array.getElem?_eq_some_iff.1 hr).1 hne).trans hr

set_option maxRecDepth 100000 in
set_option maxHeartbeats 1000000 in
theorem tableFit_any (base B g R fi : Nat) (L : List Fd) (most : Int) (w : World) (h : Rg base w B g R fi L) (hbw : base ≤ w.heap.size) (hbd : fsBd L) (m0 : 0 ≤ most) (m1 : most ≤ 1000) :
    Calls Try.prog 108 #[.pointer (some ⟨B, 0, none⟩), .int .i64 most] w fun e w' => ∃ v, e = .returned (.agg #[v, .int .i64 most]) ∧ w'.ownsRow w.heap.size 107 3 v (fitL most L).length (cellsF (fitL most L)) ∧ Below base w w' := by
  have HX : Hid (Rg base w B g R fi L) := h
  have HB : Hid (fsBd L) := hbd
  have hle := h.le
  have hrm := h.rm
  have hBl := (Array.getElem?_eq_some_iff.1 h.head).1
  have hBn : w.heap.size ≠ B := by omega
  clear h hbd
  have hb0 : Below w.heap.size w (w.alloc (.cells #[.slice none 0 0, .int .i64 0] 26)) := (Below.refl _ _).alloc (Nat.le_refl _) _
  have HR0 : Hid _ := HX.out.below hb0
  have HT0 : Hid _ := heap_alloc_last w (.cells #[.slice none 0 0, .int .i64 0] 26)
  have hlist := fun (w' : World) (L' : List Fd) (h : Rg base w' B g R fi L') (hb : base ≤ w'.heap.size) => list_any base B g R fi L' w' h hb
  have hsize := fun (w' : World) (a : Option Addr) (c : Nat) (h : w'.ownsRow (w.heap.size + 1) 107 3 (.slice a L.length c) L.length (cellsF L)) => fieldsSize_any L a L.length c w' (own_Fs h) HB.out (by omega)
  go_enter Try.func108, Try.ntmps108
  go_wp2_with (first | (go_at_call 116; refine (hlist _ L HR0.out (by simp; omega)).mono ?_; rintro e w1 ⟨a1, c1, rfl, hown1, hb1⟩; rw [World.size_alloc] at hown1) | (go_at_call 33; refine (hsize _ _ _ hown1).mono ?_; clear hsize; rintro e w2 ⟨rfl, hb2⟩))
  have hB2 : Below w.heap.size w w2 := (hb0.trans (hb1.mono (by simp))).trans (hb2.mono (by have := hb1.size; simp at this; omega))
  have hR2 := (HR0.out.below hb1).below hb2
  have hT2 := (hb2.block _ (Array.getElem?_eq_some_iff.1 ((hb1.block _ (Array.getElem?_eq_some_iff.1 HT0.out).1).trans HT0.out)).1).trans ((hb1.block _ (Array.getElem?_eq_some_iff.1 HT0.out).1).trans HT0.out)
  clear hb0 hb1 hb2 HR0 HT0 hown1
  go_loopw [5] (fun s wr => ∃ k : Nat, k ≤ L.length ∧ (fitL most L).length ≤ k ∧ s = .int .i64 (fSum (L.take k)) ∧ Rg base wr B g R fi (L.take k) ∧ wr.heap[w.heap.size]? = some (.cells #[.slice none 0 0, .int .i64 0] 26 (0, 0)) ∧ Below base w wr) (fun s _ => (intOf s).toNat)
  case atStart =>
    refine ⟨L.length, Nat.le_refl _, ?_, by rw [List.take_length], by rw [List.take_length]; exact hR2, hT2, hB2.mono hbw⟩
    rw [fitL_take, List.length_take]; omega
  case round =>
    clear hB2 hR2 hT2
    obtain ⟨k, hk, hfk, rfl, hR, hT, hbel⟩ := hrel
    have HR : Hid (Rg base wr B g R fi (L.take k)) := hR
    have HT : Hid (wr.heap[w.heap.size]? = some (.cells #[.slice none 0 0, .int .i64 0] 26 (0, 0))) := hT
    have HBE : Hid (Below base w wr) := hbel
    have hbk : fsBd (L.take k) := fun f hf => HB.out f (List.mem_of_mem_take hf)
    have hsb := fSum_bd (L.take k) hbk
    have hwz : base ≤ wr.heap.size := Nat.le_trans hbw hbel.size
    clear hR hT hbel
    obtain ⟨s, hs⟩ : ∃ s, fSum (L.take k) = s := ⟨_, rfl⟩
    have HS : Hid (fSum (L.take k) = s) := hs
    rw [hs] at hsb ⊢
    obtain ⟨s0, s1⟩ := hsb
    have s2 : s ≤ 9000000000000 := by rw [List.length_take] at s1; omega
    clear s1 hbk hs
    by_cases hgt : most < s
    · have hlt2 := fitL_lt most L k m0 (by rw [HS.out]; exact hgt)
      obtain ⟨m, rfl⟩ : ∃ m, k = m + 1 := ⟨k - 1, by omega⟩
      have hml : m < L.length := by omega
      obtain ⟨f, hff⟩ : ∃ f, L[m] = f := ⟨_, rfl⟩
      have hte : L.take (m + 1) = L.take m ++ [f] := by rw [List.take_succ_eq_append_getElem hml, hff]
      have hfb := HB.out f (by rw [← hff]; exact List.getElem_mem hml)
      have hse : fSum (L.take m) + fLen f = s := by rw [← HS.out, hte, fSum_snoc]
      have hsn := fSum_nonneg (L.take m)
      have hfp := fLen_pos f
      rw [hte] at HR
      have hdrop := fun (w' : World) (h : Rg base w' B g R fi (L.take m ++ [f])) (hb : base ≤ w'.heap.size) => dropLast_any base B g R fi (L.take m) f w' h hb
      have hfs := fun w => fieldSize_any f w hfb.1 hfb.2
      unfold Fd.val at hdrop hfs
      have HSE : Hid (fSum (L.take m) = s - fLen f) := by show fSum (L.take m) = s - fLen f; omega
      obtain ⟨x, hx⟩ : ∃ x, fLen f = x := ⟨_, rfl⟩
      rw [hx] at hfs HSE hfp hse
      have hx2 : x ≤ 9000000000000 := by omega
      clear hte hfb hff hx hse hsn
      go_wp2_with (first | (go_at_call 117; refine (hdrop _ HR.out hwz).mono ?_; clear hdrop; rintro e w3 ⟨rfl, hR3, hb3, hk3⟩) | (go_at_call 72; refine (hfs _).mono ?_; clear hfs; rintro e w4 ⟨rfl, hb4⟩))
      have hT3 := keptHeap (w := w) hk3 HT.out hBn
      have hB3 := HBE.out.trans hb3
      go_roundw
      case rel => exact ⟨m, by omega, by omega, by rw [HSE.out], hR3.below hb4, (hb4.block _ (Array.getElem?_eq_some_iff.1 hT3).1).trans hT3, hB3.trans (hb4.mono (Nat.le_trans hbw hB3.size))⟩
      case measure => simp [intOf]; omega
    · have hles : s ≤ most := by omega
      have hke : k = (fitL most L).length := by
        have := fitL_len most L k (by omega) (by rw [HS.out]; exact hles)
        omega
      have hli := hlist wr (L.take k) HR.out hwz
      have hll : (L.take k).length = k := by rw [List.length_take]; omega
      have hle2 : L.take k = fitL most L := by rw [hke, ← fitL_take]
      rw [hle2] at hli hll
      have HLL : Hid ((fitL most L).length = k) := hll
      clear hlist hke hll hle2 HS
      go_wp2_with (first | (go_at_call 116; refine hli.mono ?_; clear hli; rintro e w3 ⟨a3, c3, rfl, hown3, hb3⟩; have hT3 := (hb3.block _ (Array.getElem?_eq_some_iff.1 HT.out).1).trans HT.out) | (refine wpList_store_row rfl 26 _ _ rfl w.heap.size #[.slice a3 (fitL most L).length c3, .int .i64 most] rfl rfl 26 _ hT3 infoT2 rfl (by simp [Value.oneCell']) ?_))
      have hg := grown_setRowT w3 w.heap.size #[.slice a3 (fitL most L).length c3, .int .i64 most]
      have hB3 : Below base w w3 := HBE.out.trans (hb3.mono hwz)
      have hwr : w.heap.size ≤ wr.heap.size := HBE.out.size
      refine bodyPost_ret (results_cell_row rfl _ _ w.heap.size 26 #[.slice a3 (fitL most L).length c3, .int .i64 most] (0, 0) _ rfl (setRow_heap _ _ _ _ _ _ hT3) Try.underlying26 rfl infoT2) rfl ⟨_, rfl, own_baseT (hown3.kept hg (.inr (fun e => not_rowT hT3 (by decide) hown3 e.symm))) hwr, hB3.grown hg (Nat.le_trans hbw hB3.size) (fun q hq => by injection hq with hq; omega)⟩
end Go.Proofs.Ytghgcobnmmommaa

namespace Go.Proofs.Ytghgcobnmmommaa
open Go.RowKit
set_option linter.unusedVariables false

theorem tOk_kept {fs : List Fd} {max : Int} (h : tOk fs max = true) : fsKept fs := fun f hf => ⟨((tOk_parts h).1 f hf).2, fOk_size ((tOk_parts h).1 f hf).1⟩
set_option maxRecDepth 100000 in
set_option maxHeartbeats 1000000 in
theorem implTableAdd (fs : List Fd) (f : Fd) (a : Option Addr) (n cap : Nat) (max : Int) (w : World) (hf : Fs w a n cap fs) (hbd : fsBd fs) (hfb : f.n.size ≤ 1048576 ∧ f.v.size ≤ 1048576) (hn : n ≤ 1048576) :
    Calls Try.prog 130 #[.agg #[.slice a n cap, .int .i64 max], f.val] w (TabAns w (addV fs max f)) := by
  have hok := fun (w' : World) (h : Fs w' a n cap fs) => implTableOk fs a n cap max w' h hbd hn
  have hfo := fun (w' : World) => implFieldOk f w' hfb.1 hfb.2
  have HF : Hid (Fs w a n cap fs) := hf
  have HB : Hid (fsBd fs) := hbd
  have hlen := hf.len
  clear hf hbd
  have hb3 : Below w.heap.size w (((w.alloc (.cells #[.slice a n cap, .int .i64 max] 26)).alloc (.cells #[.string f.n, .string f.v, .bool f.q] 107)).alloc (.cells #[.slice none 0 0, .int .i64 0] 26)) := (((Below.refl _ _).alloc (Nat.le_refl _) _).alloc (by simp) _).alloc (by simp; omega) _
  have hT : Hid ((((w.alloc (.cells #[.slice a n cap, .int .i64 max] 26)).alloc (.cells #[.string f.n, .string f.v, .bool f.q] 107)).alloc (.cells #[.slice none 0 0, .int .i64 0] 26)).heap[w.heap.size]? = some (.cells #[.slice a n cap, .int .i64 max] 26 (0, 0))) := blkT (blkT (heap_alloc_last w _) _) _
  have hFl : Hid ((((w.alloc (.cells #[.slice a n cap, .int .i64 max] 26)).alloc (.cells #[.string f.n, .string f.v, .bool f.q] 107)).alloc (.cells #[.slice none 0 0, .int .i64 0] 26)).heap[w.heap.size + 1]? = some (.cells #[.string f.n, .string f.v, .bool f.q] 107 (0, 0))) := by
    have h := heap_alloc_last (w.alloc (.cells #[.slice a n cap, .int .i64 max] 26)) (.cells #[.string f.n, .string f.v, .bool f.q] 107)
    rw [World.size_alloc] at h
    exact blkT h _
  have hR : Hid ((((w.alloc (.cells #[.slice a n cap, .int .i64 max] 26)).alloc (.cells #[.string f.n, .string f.v, .bool f.q] 107)).alloc (.cells #[.slice none 0 0, .int .i64 0] 26)).heap[w.heap.size + 1 + 1]? = some (.cells #[.slice none 0 0, .int .i64 0] 26 (0, 0))) := by
    have h := heap_alloc_last ((w.alloc (.cells #[.slice a n cap, .int .i64 max] 26)).alloc (.cells #[.string f.n, .string f.v, .bool f.q] 107)) (.cells #[.slice none 0 0, .int .i64 0] 26)
    rw [World.size_alloc, World.size_alloc] at h
    exact h
  cases ht : tOk fs max with
  | false =>
    rw [ht] at hok
    have hv : addV fs max f = ([], 0) := by unfold addV; rw [ht]; rfl
    rw [hv]
    unfold Fd.val
    clear ht hv
    go_enter Try.func130, Try.ntmps130
    go_wp2_with (first | (go_at_call 31; refine (hok _ (HF.out.below hb3)).mono ?_; clear hok; rintro e w1 ⟨rfl, hb1⟩; have hR1 := (hb1.block _ (Array.getElem?_eq_some_iff.1 hR.out).1).trans hR.out) | (refine wpList_store_row rfl 26 _ _ rfl (w.heap.size + 1 + 1) #[.slice none 0 0, .int .i64 0] rfl rfl 26 _ hR1 infoT2 rfl (by simp [Value.oneCell']) ?_))
    refine bodyPost_ret (results_cell_row rfl _ _ (w.heap.size + 1 + 1) 26 #[.slice none 0 0, .int .i64 0] (0, 0) _ rfl (setRow_heap _ _ _ _ _ _ hR1) Try.underlying26 rfl infoT2) rfl ⟨_, rfl, World.ownsRow_nil _ _ _ _, (hb3.trans (hb1.mono hb3.size)).grown (grown_setRowT _ _ _) (Nat.le_trans hb3.size hb1.size) (fun q hq => by injection hq with hq; omega)⟩
  | true =>
    rw [ht] at hok
    obtain ⟨x0, x1⟩ := tOk_max ht
    have hkept := tOk_kept ht
    have hl16 := tOk_len ht
    cases hfk : fOk f with
    | false =>
      rw [hfk] at hfo
      have hv : addV fs max f = ([], 0) := by unfold addV; rw [ht, hfk]; rfl
      rw [hv]
      unfold Fd.val at hfo ⊢
      clear ht hv hfk
      go_enter Try.func130, Try.ntmps130
      go_wp2_with (first | (go_at_call 31; refine (hok _ (HF.out.below hb3)).mono ?_; clear hok; rintro e w1 ⟨rfl, hb1⟩; have hR1 := (hb1.block _ (Array.getElem?_eq_some_iff.1 hR.out).1).trans hR.out; have hF1 := (hb1.block _ (Array.getElem?_eq_some_iff.1 hFl.out).1).trans hFl.out; have y0 := cell_of_row _ _ 0 _ _ _ hF1; have y1 := cell_of_row _ _ 1 _ _ _ hF1; have y2 := cell_of_row _ _ 2 _ _ _ hF1) | (go_at_call 70; refine (hfo _).mono ?_; clear hfo; rintro e w2 ⟨rfl, hb2⟩; have hR2 := (hb2.block _ (Array.getElem?_eq_some_iff.1 hR1).1).trans hR1) | (refine wpList_store_row rfl 26 _ _ rfl (w.heap.size + 1 + 1) #[.slice none 0 0, .int .i64 0] rfl rfl 26 _ hR2 infoT2 rfl (by simp [Value.oneCell']) ?_))
      refine bodyPost_ret (results_cell_row rfl _ _ (w.heap.size + 1 + 1) 26 #[.slice none 0 0, .int .i64 0] (0, 0) _ rfl (setRow_heap _ _ _ _ _ _ hR2) Try.underlying26 rfl infoT2) rfl ⟨_, rfl, World.ownsRow_nil _ _ _ _, ((hb3.trans (hb1.mono hb3.size)).trans (hb2.mono (Nat.le_trans hb3.size hb1.size))).grown (grown_setRowT _ _ _) (Nat.le_trans (Nat.le_trans hb3.size hb1.size) hb2.size) (fun q hq => by injection hq with hq; omega)⟩
    | true =>
      rw [hfk] at hfo
      have hv : addV fs max f = (fitL max (⟨f.n, f.v, false⟩ :: fs), max) := by unfold addV; rw [ht, hfk]; rfl
      rw [hv]
      obtain ⟨f16, v16⟩ := fOk_size hfk
      have hring := fun (w' : World) (h : Fs w' a n cap fs) => tableRing_any fs a n cap max w' h hkept (by omega)
      have hkf := fun (w' : World) => fieldKept_any f w' f16 v16
      have hbf : fsBd (⟨f.n, f.v, false⟩ :: fs) := by
        intro x hx
        rcases List.mem_cons.1 hx with rfl | hx
        · exact hfb
        · exact HB.out x hx
      have hfirst := fun (base B g fi : Nat) (w' : World) (h : Rg base w' B g (n + 1) fi fs) (hb : base ≤ w'.heap.size) => addFirst_any base B g (n + 1) fi fs ⟨f.n, f.v, false⟩ w' h (by omega) hb
      have hfit := fun (base B g fi : Nat) (w' : World) (h : Rg base w' B g (n + 1) fi (⟨f.n, f.v, false⟩ :: fs)) (hb : base ≤ w'.heap.size) => tableFit_any base B g (n + 1) fi (⟨f.n, f.v, false⟩ :: fs) max w' h hb hbf x0 (by omega)
      have HBF : Hid (fsBd (⟨f.n, f.v, false⟩ :: fs)) := hbf
      unfold Fd.val at hfo hkf hfirst ⊢
      clear ht hv hfk hbf
      have HKP : Hid (fsKept fs) := hkept
      clear hkept
      go_enter Try.func130, Try.ntmps130
      go_wp2_with (first | (go_at_call 31; refine (hok _ (HF.out.below hb3)).mono ?_; clear hok; rintro e w1 ⟨rfl, hb1⟩; have hR1 := (hb1.block _ (Array.getElem?_eq_some_iff.1 hR.out).1).trans hR.out; have hF1 := (hb1.block _ (Array.getElem?_eq_some_iff.1 hFl.out).1).trans hFl.out; have hT1 := (hb1.block _ (Array.getElem?_eq_some_iff.1 hT.out).1).trans hT.out; have y0 := cell_of_row _ _ 0 _ _ _ hF1; have y1 := cell_of_row _ _ 1 _ _ _ hF1; have y2 := cell_of_row _ _ 2 _ _ _ hF1) | (go_at_call 70; refine (hfo _).mono ?_; clear hfo; rintro e w2 ⟨rfl, hb2⟩; have hR2 := (hb2.block _ (Array.getElem?_eq_some_iff.1 hR1).1).trans hR1; have hF2 := (hb2.block _ (Array.getElem?_eq_some_iff.1 hF1).1).trans hF1; have hT2 := (hb2.block _ (Array.getElem?_eq_some_iff.1 hT1).1).trans hT1; have t0 := cell_of_row _ _ 0 _ _ _ hT2; have t1 := cell_of_row _ _ 1 _ _ _ hT2; have hbw2 := (hb3.trans (hb1.mono hb3.size)).trans (hb2.mono (Nat.le_trans hb3.size hb1.size))) | (go_at_call 109; refine (hring _ (HF.out.below hbw2)).mono ?_; clear hring; rintro e w3 ⟨B, g, fi, rfl, hG3, hb33⟩; have hR3 := (hb33.block _ (Array.getElem?_eq_some_iff.1 hR2).1).trans hR2; have hF3 := (hb33.block _ (Array.getElem?_eq_some_iff.1 hF2).1).trans hF2; have hT3 := (hb33.block _ (Array.getElem?_eq_some_iff.1 hT2).1).trans hT2; have u0 := cell_of_row _ _ 0 _ _ _ hF3; have u1 := cell_of_row _ _ 1 _ _ _ hF3; have u2 := cell_of_row _ _ 2 _ _ _ hF3) | (go_at_call 120; refine (hkf _).mono ?_; clear hkf; rintro e w4 ⟨rfl, hb4⟩; have hG4 := hG3.below hb4; have hB24 := hb33.trans (hb4.mono hb33.size)) | (go_at_call 134; refine (hfirst _ _ _ _ _ hG4 hB24.size).mono ?_; clear hfirst; rintro e w5 ⟨rfl, hG5, hb5⟩; have hB25 := hB24.trans hb5; have hT5 := (hB25.block _ (Array.getElem?_eq_some_iff.1 hT2).1).trans hT2; have hR5 := (hB25.block _ (Array.getElem?_eq_some_iff.1 hR2).1).trans hR2; have s1 := cell_of_row _ _ 1 _ _ _ hT5) | (go_at_call 108; refine (hfit _ _ _ _ _ hG5 hB25.size).mono ?_; clear hfit; rintro e w6 ⟨v6, rfl, hown6, hb6⟩; obtain ⟨a6, c6, rfl⟩ := own_formT hown6; have hB26 := hB25.trans hb6; have hR6 := (hB26.block _ (Array.getElem?_eq_some_iff.1 hR2).1).trans hR2) | (refine wpList_store_row rfl 26 _ _ rfl (w.heap.size + 1 + 1) #[.slice a6 (fitL max (⟨f.n, f.v, false⟩ :: fs)).length c6, .int .i64 max] rfl rfl 26 _ hR6 infoT2 rfl (by simp [Value.oneCell']) ?_))
      have hg := grown_setRowT w6 (w.heap.size + 1 + 1) #[.slice a6 (fitL max (⟨f.n, f.v, false⟩ :: fs)).length c6, .int .i64 max]
      have hbw6 : Below w.heap.size w w6 := hbw2.trans (hB26.mono hbw2.size)
      have hz5 : w.heap.size ≤ w5.heap.size := Nat.le_trans hbw2.size hB25.size
      refine bodyPost_ret (results_cell_row rfl _ _ (w.heap.size + 1 + 1) 26 #[.slice a6 (fitL max (⟨f.n, f.v, false⟩ :: fs)).length c6, .int .i64 max] (0, 0) _ rfl (setRow_heap _ _ _ _ _ _ hR6) Try.underlying26 rfl infoT2) rfl ⟨_, rfl, own_baseT (hown6.kept hg (.inr (fun e => not_rowT hR6 (by decide) hown6 e.symm))) hz5, hbw6.grown hg hbw6.size (fun q hq => by injection hq with hq; omega)⟩

set_option maxRecDepth 100000 in
set_option maxHeartbeats 1000000 in
theorem implTableLimit (fs : List Fd) (a : Option Addr) (n cap : Nat) (max most : Int) (w : World) (hf : Fs w a n cap fs) (hbd : fsBd fs) (hn : n ≤ 1048576) :
    Calls Try.prog 91 #[.agg #[.slice a n cap, .int .i64 max], .int .i64 most] w (TabAns w (limV fs max most)) := by
  have hok := fun (w' : World) (h : Fs w' a n cap fs) => implTableOk fs a n cap max w' h hbd hn
  have hin := fun (w' : World) => tableMaxOk_any most w'
  have HF : Hid (Fs w a n cap fs) := hf
  have HB : Hid (fsBd fs) := hbd
  have hlen := hf.len
  clear hf hbd
  have hb2 : Below w.heap.size w ((w.alloc (.cells #[.slice a n cap, .int .i64 max] 26)).alloc (.cells #[.slice none 0 0, .int .i64 0] 26)) := ((Below.refl _ _).alloc (Nat.le_refl _) _).alloc (by simp) _
  have hT : Hid (((w.alloc (.cells #[.slice a n cap, .int .i64 max] 26)).alloc (.cells #[.slice none 0 0, .int .i64 0] 26)).heap[w.heap.size]? = some (.cells #[.slice a n cap, .int .i64 max] 26 (0, 0))) := blkT (heap_alloc_last w _) _
  have hR : Hid (((w.alloc (.cells #[.slice a n cap, .int .i64 max] 26)).alloc (.cells #[.slice none 0 0, .int .i64 0] 26)).heap[w.heap.size + 1]? = some (.cells #[.slice none 0 0, .int .i64 0] 26 (0, 0))) := by
    have h := heap_alloc_last (w.alloc (.cells #[.slice a n cap, .int .i64 max] 26)) (.cells #[.slice none 0 0, .int .i64 0] 26)
    rw [World.size_alloc] at h
    exact h
  cases ht : tOk fs max with
  | false =>
    rw [ht] at hok
    have hv : limV fs max most = ([], 0) := by unfold limV; rw [ht]; rfl
    rw [hv]
    clear ht hv hin
    go_enter Try.func91, Try.ntmps91
    go_wp2_with (first | (go_at_call 31; refine (hok _ (HF.out.below hb2)).mono ?_; clear hok; rintro e w1 ⟨rfl, hb1⟩; have hR1 := (hb1.block _ (Array.getElem?_eq_some_iff.1 hR.out).1).trans hR.out) | (refine wpList_store_row rfl 26 _ _ rfl (w.heap.size + 1) #[.slice none 0 0, .int .i64 0] rfl rfl 26 _ hR1 infoT2 rfl (by simp [Value.oneCell']) ?_))
    refine bodyPost_ret (results_cell_row rfl _ _ (w.heap.size + 1) 26 #[.slice none 0 0, .int .i64 0] (0, 0) _ rfl (setRow_heap _ _ _ _ _ _ hR1) Try.underlying26 rfl infoT2) rfl ⟨_, rfl, World.ownsRow_nil _ _ _ _, (hb2.trans (hb1.mono hb2.size)).grown (grown_setRowT _ _ _) (Nat.le_trans hb2.size hb1.size) (fun q hq => by injection hq with hq; omega)⟩
  | true =>
    rw [ht] at hok
    have hkept := tOk_kept ht
    have hl16 := tOk_len ht
    cases hi : (decide (0 ≤ most) && decide (most ≤ 64)) with
    | false =>
      rw [hi] at hin
      have hv : limV fs max most = ([], 0) := by unfold limV; rw [ht, hi]; rfl
      rw [hv]
      clear ht hv hi hkept
      go_enter Try.func91, Try.ntmps91
      go_wp2_with (first | (go_at_call 31; refine (hok _ (HF.out.below hb2)).mono ?_; clear hok; rintro e w1 ⟨rfl, hb1⟩; have hR1 := (hb1.block _ (Array.getElem?_eq_some_iff.1 hR.out).1).trans hR.out) | (go_at_call 69; refine (hin _).mono ?_; clear hin; rintro e wi ⟨rfl, rfl⟩) | (refine wpList_store_row rfl 26 _ _ rfl (w.heap.size + 1) #[.slice none 0 0, .int .i64 0] rfl rfl 26 _ hR1 infoT2 rfl (by simp [Value.oneCell']) ?_))
      refine bodyPost_ret (results_cell_row rfl _ _ (w.heap.size + 1) 26 #[.slice none 0 0, .int .i64 0] (0, 0) _ rfl (setRow_heap _ _ _ _ _ _ hR1) Try.underlying26 rfl infoT2) rfl ⟨_, rfl, World.ownsRow_nil _ _ _ _, (hb2.trans (hb1.mono hb2.size)).grown (grown_setRowT _ _ _) (Nat.le_trans hb2.size hb1.size) (fun q hq => by injection hq with hq; omega)⟩
    | true =>
      rw [hi] at hin
      have hv : limV fs max most = (fitL most fs, most) := by unfold limV; rw [ht, hi]; rfl
      rw [hv]
      have hmo : 0 ≤ most ∧ most ≤ 64 := by simpa using hi
      have hring := fun (w' : World) (h : Fs w' a n cap fs) => tableRing_any fs a n cap max w' h hkept (by omega)
      have hfit := fun (base B g fi : Nat) (w' : World) (h : Rg base w' B g (n + 1) fi fs) (hb : base ≤ w'.heap.size) => tableFit_any base B g (n + 1) fi fs most w' h hb HB.out hmo.1 (by omega)
      have HKP : Hid (fsKept fs) := hkept
      clear ht hv hi hmo hkept
      go_enter Try.func91, Try.ntmps91
      go_wp2_with (first | (go_at_call 31; refine (hok _ (HF.out.below hb2)).mono ?_; clear hok; rintro e w1 ⟨rfl, hb1⟩; have hR1 := (hb1.block _ (Array.getElem?_eq_some_iff.1 hR.out).1).trans hR.out; have hT1 := (hb1.block _ (Array.getElem?_eq_some_iff.1 hT.out).1).trans hT.out; have t0 := cell_of_row _ _ 0 _ _ _ hT1; have t1 := cell_of_row _ _ 1 _ _ _ hT1; have hbw1 := hb2.trans (hb1.mono hb2.size)) | (go_at_call 69; refine (hin _).mono ?_; clear hin; rintro e wi ⟨rfl, rfl⟩) | (go_at_call 109; refine (hring _ (HF.out.below hbw1)).mono ?_; clear hring; rintro e w3 ⟨B, g, fi, rfl, hG3, hb3⟩) | (go_at_call 108; refine (hfit _ _ _ _ _ hG3 hb3.size).mono ?_; clear hfit; rintro e w4 ⟨v4, rfl, hown4, hb4⟩; obtain ⟨a4, c4, rfl⟩ := own_formT hown4; have hB4 := hb3.trans hb4; have hR4 := (hB4.block _ (Array.getElem?_eq_some_iff.1 hR1).1).trans hR1) | (refine wpList_store_row rfl 26 _ _ rfl (w.heap.size + 1) #[.slice a4 (fitL most fs).length c4, .int .i64 most] rfl rfl 26 _ hR4 infoT2 rfl (by simp [Value.oneCell']) ?_))
      have hg := grown_setRowT w4 (w.heap.size + 1) #[.slice a4 (fitL most fs).length c4, .int .i64 most]
      have hbw4 : Below w.heap.size w w4 := hbw1.trans (hB4.mono hbw1.size)
      have hz3 : w.heap.size ≤ w3.heap.size := Nat.le_trans hbw1.size hb3.size
      refine bodyPost_ret (results_cell_row rfl _ _ (w.heap.size + 1) 26 #[.slice a4 (fitL most fs).length c4, .int .i64 most] (0, 0) _ rfl (setRow_heap _ _ _ _ _ _ hR4) Try.underlying26 rfl infoT2) rfl ⟨_, rfl, own_baseT (hown4.kept hg (.inr (fun e => not_rowT hR4 (by decide) hown4 e.symm))) hz3, hbw4.grown hg hbw4.size (fun q hq => by injection hq with hq; omega)⟩
end Go.Proofs.Ytghgcobnmmommaa
