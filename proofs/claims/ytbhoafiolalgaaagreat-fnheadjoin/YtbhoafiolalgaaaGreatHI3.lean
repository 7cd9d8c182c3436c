import Derived.Test.YtbhoafiolalgaaaGreatBO
namespace Go.Proofs.YtbhoafiolalgaaaGreat
open Go.RowKit
set_option linter.unusedVariables false

/-- The field of words, by a table. -/
def fieldV (fs : List Fd) (p : Int) (nm v : ByteArray) : Fd × Bool := if p = 0 then (⟨nm, v, false⟩, true) else (⟨(atV fs p).1.n, v, false⟩, (atV fs p).2)
theorem tabAt_ok {fs : List Fd} {max : Int} (ht : tOk fs max = true) (p : Int) : tabAt fs max p = atV fs p := by unfold tabAt; rw [ht]; rfl
set_option maxRecDepth 100000 in
set_option maxHeartbeats 1000000 in
theorem field_any (fs : List Fd) (a : Option Addr) (n cap : Nat) (max p : Int) (nm v : ByteArray) (w : World) (hf : Fs w a n cap fs) (ht : tOk fs max = true) :
    Calls Tryz.prog 46 #[.agg #[.int .i64 p, .string nm, .string v], .agg #[.slice a n cap, .int .i64 max]] w fun e w' => e = .returned (.tuple #[(fieldV fs p nm v).1.val, .bool (fieldV fs p nm v).2]) ∧ Below w.heap.size w w' := by
  have hat := fun (w' : World) (h : Fs w' a n cap fs) => implTableAt fs a n cap max p w' h (bd_ok ht) (by have := tOk_len ht; have := hf.len; omega)
  rw [tabAt_ok ht] at hat
  have hb3 : Below w.heap.size w (((w.alloc (.cells #[.int .i64 p, .string nm, .string v] 77)).alloc (.cells #[.slice a n cap, .int .i64 max] 25)).alloc (.cells #[.string ⟨#[]⟩, .string ⟨#[]⟩, .bool false] 52)) := (((Below.refl _ _).alloc (Nat.le_refl _) _).alloc (by simp) _).alloc (by simp; omega) _
  have hW3 : Hid ((((w.alloc (.cells #[.int .i64 p, .string nm, .string v] 77)).alloc (.cells #[.slice a n cap, .int .i64 max] 25)).alloc (.cells #[.string ⟨#[]⟩, .string ⟨#[]⟩, .bool false] 52)).heap[w.heap.size]? = some (.cells #[.int .i64 p, .string nm, .string v] 77 (0, 0))) := blkT (blkT (heap_alloc_last w _) _) _
  have hR3 : Hid ((((w.alloc (.cells #[.int .i64 p, .string nm, .string v] 77)).alloc (.cells #[.slice a n cap, .int .i64 max] 25)).alloc (.cells #[.string ⟨#[]⟩, .string ⟨#[]⟩, .bool false] 52)).heap[w.heap.size + 1 + 1]? = some (.cells #[.string ⟨#[]⟩, .string ⟨#[]⟩, .bool false] 52 (0, 0))) := by
    have h := heap_alloc_last ((w.alloc (.cells #[.int .i64 p, .string nm, .string v] 77)).alloc (.cells #[.slice a n cap, .int .i64 max] 25)) (.cells #[.string ⟨#[]⟩, .string ⟨#[]⟩, .bool false] 52)
    rw [World.size_alloc, World.size_alloc] at h
    exact h
  have HF : Hid (Fs w a n cap fs) := hf
  unfold fieldV
  clear hf ht
  by_cases hp : p = 0
  · subst hp
    rw [if_pos rfl]
    unfold Fd.val
    dsimp only
    clear hat
    go_enter Tryz.func46, Tryz.ntmps46
    go_wp2
    refine bodyPost_ret (results_cell_tmp rfl _ _ (w.heap.size + 1 + 1) #[.string nm, .string v, .bool false] rfl (load_fld (by
      have h := heap_alloc_last ((w.alloc (.cells #[.int .i64 0, .string nm, .string v] 77)).alloc (.cells #[.slice a n cap, .int .i64 max] 25)) (.cells #[.string nm, .string v, .bool false] 52)
      rw [World.size_alloc, World.size_alloc] at h
      exact h))) rfl ⟨rfl, (((Below.refl _ _).alloc (Nat.le_refl _) _).alloc (by simp) _).alloc (by simp; omega) _⟩
  · rw [if_neg hp]
    obtain ⟨⟨x, ok⟩, hx⟩ : ∃ r, atV fs p = r := ⟨_, rfl⟩
    rw [hx] at hat ⊢
    unfold Fd.val at hat ⊢
    dsimp only at hat ⊢
    clear hx
    go_enter Tryz.func46, Tryz.ntmps46
    go_wp2_with (go_at_call 45; refine (hat _ (HF.out.below hb3)).mono ?_; clear hat; rintro e w1 ⟨rfl, hb1⟩; have hW1 := blkT (blkH hb1 hW3.out) (.cells #[.string x.n, .string x.v, .bool x.q] 52); obtain ⟨c0, c1, c2⟩ := row3c hW1; have hR1 := blkT (blkH hb1 hR3.out) (.cells #[.string x.n, .string x.v, .bool x.q] 52); obtain ⟨d0, d1, d2⟩ := row3c hR1; have f0 := frz 0 hR1; have f1 := frz 1 hR1; have f2 := frz 2 hR1)
    have hbw := bt' hb3 hb1
    exact bodyPost_ret (results_cell_tmp rfl _ _ (w.heap.size + 1 + 1) #[.string x.n, .string v, .bool false] rfl (load_fld (set3_heap _ _ _ hR1))) rfl ⟨rfl, bel3 (hbw.alloc hbw.size (.cells #[.string x.n, .string x.v, .bool x.q] 52)) (by omega) _ _ _⟩
theorem results_cc1 {fn : Func} {p q r : Tmp} {ty ty2 : TypeId} (h : fn.results = #[.cell p ty, .cell q ty2, .tmp r]) (tmps : Array Value) (w : World) (g g2 : Nat) (cs cs2 : Array Value)
    (hp : tmps.getD p undef = .pointer (some ⟨g, 0, none⟩)) (hl : (loadVar ty ⟨g, 0, none⟩).run Tryz.prog w = .ok (.agg cs) w) (hq : tmps.getD q undef = .pointer (some ⟨g2, 0, none⟩)) (hl2 : (loadVar ty2 ⟨g2, 0, none⟩).run Tryz.prog w = .ok (.agg cs2) w) :
    (results fn tmps).run Tryz.prog w = .ok (.tuple #[.agg cs, .agg cs2, tmps.getD r undef]) w := by
  have hp' : tmps[p]?.getD undef = .pointer (some ⟨g, 0, none⟩) := by simpa using hp
  have hq' : tmps[q]?.getD undef = .pointer (some ⟨g2, 0, none⟩) := by simpa using hq
  simp [results, h, hp', hq', asAddr, hl, hl2]
theorem as_found (W : World) (p : Int) : (Instr.typeAssert (.iface 75 (.agg #[.int .i64 p])) 48 75 true).run Tryz.prog W = .ok (.tuple #[.agg #[.int .i64 p], .bool true]) W := by kernel_rfl
theorem as_added1 (W : World) (x : Value) : (Instr.typeAssert (.iface 81 x) 48 75 true).run Tryz.prog W = .ok (.tuple #[.agg #[.int .i64 0], .bool false]) W := by kernel_rfl
theorem as_added2 (W : World) (x : Value) : (Instr.typeAssert (.iface 81 x) 48 81 true).run Tryz.prog W = .ok (.tuple #[x, .bool true]) W := by kernel_rfl
theorem as_never1 (W : World) (x : Value) : (Instr.typeAssert (.iface 82 x) 48 75 true).run Tryz.prog W = .ok (.tuple #[.agg #[.int .i64 0], .bool false]) W := by kernel_rfl
theorem as_never2 (W : World) (x : Value) : (Instr.typeAssert (.iface 82 x) 48 81 true).run Tryz.prog W = .ok (.tuple #[.agg #[.int .i64 0, .string ⟨#[]⟩, .string ⟨#[]⟩], .bool false]) W := by kernel_rfl
theorem as_never3 (W : World) (x : Value) : (Instr.typeAssert (.iface 82 x) 48 82 true).run Tryz.prog W = .ok (.tuple #[x, .bool true]) W := by kernel_rfl
set_option maxRecDepth 100000 in
set_option maxHeartbeats 4000000 in
theorem step_found (fs : List Fd) (a : Option Addr) (n cap : Nat) (max p : Int) (w : World) (hf : Fs w a n cap fs) (ht : tOk fs max = true) :
    Calls Tryz.prog 25 #[.agg #[.slice a n cap, .int .i64 max], .iface 75 (.agg #[.int .i64 p])] w fun e w' => e = .returned (.tuple #[.agg #[.slice a n cap, .int .i64 max], (atV fs p).1.val, .bool (atV fs p).2]) ∧ Below w.heap.size w w' := by
  have hat := fun (w' : World) (h : Fs w' a n cap fs) => implTableAt fs a n cap max p w' h (bd_ok ht) (by have := tOk_len ht; have := hf.len; omega)
  rw [tabAt_ok ht] at hat
  have hty := fun W => as_found W p
  have hb2 : Below w.heap.size w ((((w.alloc (.cells #[.slice a n cap, .int .i64 max] 25)).alloc (.cells #[.slice none 0 0, .int .i64 0] 25)).alloc (.cells #[.string ⟨#[]⟩, .string ⟨#[]⟩, .bool false] 52)).alloc (.cells #[.int .i64 p] 75)) := ((((Below.refl _ _).alloc (Nat.le_refl _) _).alloc (by simp) _).alloc (by simp; omega) _).alloc (by simp; omega) _
  have hT3 : Hid (((((w.alloc (.cells #[.slice a n cap, .int .i64 max] 25)).alloc (.cells #[.slice none 0 0, .int .i64 0] 25)).alloc (.cells #[.string ⟨#[]⟩, .string ⟨#[]⟩, .bool false] 52)).alloc (.cells #[.int .i64 p] 75)).heap[w.heap.size]? = some (.cells #[.slice a n cap, .int .i64 max] 25 (0, 0))) := blkT (blkT (blkT (heap_alloc_last w _) _) _) _
  have hR3 : Hid (((((w.alloc (.cells #[.slice a n cap, .int .i64 max] 25)).alloc (.cells #[.slice none 0 0, .int .i64 0] 25)).alloc (.cells #[.string ⟨#[]⟩, .string ⟨#[]⟩, .bool false] 52)).alloc (.cells #[.int .i64 p] 75)).heap[w.heap.size + 1]? = some (.cells #[.slice none 0 0, .int .i64 0] 25 (0, 0))) := by
    have h := heap_alloc_last (w.alloc (.cells #[.slice a n cap, .int .i64 max] 25)) (.cells #[.slice none 0 0, .int .i64 0] 25)
    rw [World.size_alloc] at h
    exact blkT (blkT h _) _
  have hF3 : Hid (((((w.alloc (.cells #[.slice a n cap, .int .i64 max] 25)).alloc (.cells #[.slice none 0 0, .int .i64 0] 25)).alloc (.cells #[.string ⟨#[]⟩, .string ⟨#[]⟩, .bool false] 52)).alloc (.cells #[.int .i64 p] 75)).heap[w.heap.size + 1 + 1]? = some (.cells #[.string ⟨#[]⟩, .string ⟨#[]⟩, .bool false] 52 (0, 0))) := by
    have h := heap_alloc_last ((w.alloc (.cells #[.slice a n cap, .int .i64 max] 25)).alloc (.cells #[.slice none 0 0, .int .i64 0] 25)) (.cells #[.string ⟨#[]⟩, .string ⟨#[]⟩, .bool false] 52)
    rw [World.size_alloc, World.size_alloc] at h
    exact blkT h _
  have hz3 : ((((w.alloc (.cells #[.slice a n cap, .int .i64 max] 25)).alloc (.cells #[.slice none 0 0, .int .i64 0] 25)).alloc (.cells #[.string ⟨#[]⟩, .string ⟨#[]⟩, .bool false] 52)).alloc (.cells #[.int .i64 p] 75)).heap.size = w.heap.size + 1 + 1 + 1 + 1 := by simp
  have HF : Hid (Fs w a n cap fs) := hf
  clear hf ht
  obtain ⟨⟨x, ok⟩, hx⟩ : ∃ r, atV fs p = r := ⟨_, rfl⟩
  rw [hx] at hat ⊢
  unfold Fd.val at hat ⊢
  dsimp only at hat ⊢
  clear hx
  go_enter Tryz.func25, Tryz.ntmps25
  go_upto_region 5 with (go_at_call 45; refine (hat _ (HF.out.below hb2)).mono ?_; clear hat; rintro e w1 ⟨rfl, hb1⟩)
  have hT1 := blkT (blkH hb1 hT3.out) (.cells #[.string x.n, .string x.v, .bool x.q] 52)
  have hR1 := blkT (blkH hb1 hR3.out) (.cells #[.string x.n, .string x.v, .bool x.q] 52)
  have hF1 := blkT (blkH hb1 hF3.out) (.cells #[.string x.n, .string x.v, .bool x.q] 52)
  have hL1 := heap_alloc_last w1 (.cells #[.string x.n, .string x.v, .bool x.q] 52)
  have hBw := bt' hb2 hb1
  have hB1 := hBw.alloc hBw.size (.cells #[.string x.n, .string x.v, .bool x.q] 52)
  have hFs := HF.out.below hB1
  have hzz : w.heap.size + 1 + 1 + 1 ≤ w1.heap.size := by have := hb1.size; rw [hz3] at this; omega
  have hzU : (w1.alloc (.cells #[.string x.n, .string x.v, .bool x.q] 52)).heap.size = w1.heap.size + 1 := by simp
  clear hb1 hBw
  refine wabs (fun U => U.heap[w.heap.size]? = some (.cells #[.slice a n cap, .int .i64 max] 25 (0, 0)) ∧ U.heap[w.heap.size + 1]? = some (.cells #[.slice none 0 0, .int .i64 0] 25 (0, 0)) ∧ U.heap[w.heap.size + 1 + 1]? = some (.cells #[.string ⟨#[]⟩, .string ⟨#[]⟩, .bool false] 52 (0, 0)) ∧ U.heap[w1.heap.size]? = some (.cells #[.string x.n, .string x.v, .bool x.q] 52 (0, 0)) ∧ Fs U a n cap fs ∧ Below w.heap.size w U ∧ U.heap.size = w1.heap.size + 1) ⟨hT1, hR1, hF1, hL1, hFs, hB1, hzU⟩ ?_
  clear hT1 hR1 hF1 hL1 hFs hB1 hzU
  rintro U ⟨hT1, hR1, hF1, hL1, hFs, hB1, hzU⟩
  obtain ⟨t0, t1⟩ := row2c (W := U) hT1
  obtain ⟨l0, l1, l2⟩ := row3c (W := U) hL1
  obtain ⟨r0, r1⟩ := row2c (W := U) hR1
  obtain ⟨d0, d1, d2⟩ := row3c (W := U) hF1
  have f0 := frz (W := U) 0 hR1
  have f1 := frz (W := U) 1 hR1
  have e0 := frz (W := U) 0 hF1
  have e1 := frz (W := U) 1 hF1
  have e2 := frz (W := U) 2 hF1
  have k2 := frz (W := U) 2 hL1
  go_region
  go_wp2
  exact bodyPost_ret (results_cc1 rfl _ _ (w.heap.size + 1) (w.heap.size + 1 + 1) #[.slice a n cap, .int .i64 max] #[.string x.n, .string x.v, .bool x.q] rfl (load_tab (two_rowsd hR1 hF1 _ _ _ _ _).1) rfl (load_fld (two_rowsd hR1 hF1 _ _ _ _ _).2)) rfl ⟨rfl, bel5d (B := w.heap.size + 1) hB1 (by omega) _ _ _ _ _⟩
set_option maxRecDepth 100000 in
set_option maxHeartbeats 4000000 in
theorem step_never (fs : List Fd) (a : Option Addr) (n cap : Nat) (max p : Int) (nm v : ByteArray) (w : World) (hf : Fs w a n cap fs) (ht : tOk fs max = true) :
    Calls Tryz.prog 25 #[.agg #[.slice a n cap, .int .i64 max], .iface 82 (.agg #[.int .i64 p, .string nm, .string v])] w fun e w' => e = .returned (.tuple #[.agg #[.slice a n cap, .int .i64 max], Fd.val ⟨(fieldV fs p nm v).1.n, (fieldV fs p nm v).1.v, true⟩, .bool (fieldV fs p nm v).2]) ∧ Below w.heap.size w w' := by
  have hat := fun (w' : World) (h : Fs w' a n cap fs) => field_any fs a n cap max p nm v w' h ht
  have hty1 := fun W => as_never1 W (.agg #[.int .i64 p, .string nm, .string v])
  have hty2 := fun W => as_never2 W (.agg #[.int .i64 p, .string nm, .string v])
  have hty3 := fun W => as_never3 W (.agg #[.int .i64 p, .string nm, .string v])
  have hb2 : Below w.heap.size w ((((w.alloc (.cells #[.slice a n cap, .int .i64 max] 25)).alloc (.cells #[.slice none 0 0, .int .i64 0] 25)).alloc (.cells #[.string ⟨#[]⟩, .string ⟨#[]⟩, .bool false] 52)).alloc (.cells #[.int .i64 p, .string nm, .string v] 82)) := ((((Below.refl _ _).alloc (Nat.le_refl _) _).alloc (by simp) _).alloc (by simp; omega) _).alloc (by simp; omega) _
  have hT3 : Hid (((((w.alloc (.cells #[.slice a n cap, .int .i64 max] 25)).alloc (.cells #[.slice none 0 0, .int .i64 0] 25)).alloc (.cells #[.string ⟨#[]⟩, .string ⟨#[]⟩, .bool false] 52)).alloc (.cells #[.int .i64 p, .string nm, .string v] 82)).heap[w.heap.size]? = some (.cells #[.slice a n cap, .int .i64 max] 25 (0, 0))) := blkT (blkT (blkT (heap_alloc_last w _) _) _) _
  have hR3 : Hid (((((w.alloc (.cells #[.slice a n cap, .int .i64 max] 25)).alloc (.cells #[.slice none 0 0, .int .i64 0] 25)).alloc (.cells #[.string ⟨#[]⟩, .string ⟨#[]⟩, .bool false] 52)).alloc (.cells #[.int .i64 p, .string nm, .string v] 82)).heap[w.heap.size + 1]? = some (.cells #[.slice none 0 0, .int .i64 0] 25 (0, 0))) := by
    have h := heap_alloc_last (w.alloc (.cells #[.slice a n cap, .int .i64 max] 25)) (.cells #[.slice none 0 0, .int .i64 0] 25)
    rw [World.size_alloc] at h
    exact blkT (blkT h _) _
  have hF3 : Hid (((((w.alloc (.cells #[.slice a n cap, .int .i64 max] 25)).alloc (.cells #[.slice none 0 0, .int .i64 0] 25)).alloc (.cells #[.string ⟨#[]⟩, .string ⟨#[]⟩, .bool false] 52)).alloc (.cells #[.int .i64 p, .string nm, .string v] 82)).heap[w.heap.size + 1 + 1]? = some (.cells #[.string ⟨#[]⟩, .string ⟨#[]⟩, .bool false] 52 (0, 0))) := by
    have h := heap_alloc_last ((w.alloc (.cells #[.slice a n cap, .int .i64 max] 25)).alloc (.cells #[.slice none 0 0, .int .i64 0] 25)) (.cells #[.string ⟨#[]⟩, .string ⟨#[]⟩, .bool false] 52)
    rw [World.size_alloc, World.size_alloc] at h
    exact blkT h _
  have hz3 : ((((w.alloc (.cells #[.slice a n cap, .int .i64 max] 25)).alloc (.cells #[.slice none 0 0, .int .i64 0] 25)).alloc (.cells #[.string ⟨#[]⟩, .string ⟨#[]⟩, .bool false] 52)).alloc (.cells #[.int .i64 p, .string nm, .string v] 82)).heap.size = w.heap.size + 1 + 1 + 1 + 1 := by simp
  have HF : Hid (Fs w a n cap fs) := hf
  clear hf ht
  obtain ⟨⟨x, ok⟩, hx⟩ : ∃ r, fieldV fs p nm v = r := ⟨_, rfl⟩
  rw [hx] at hat ⊢
  unfold Fd.val at hat ⊢
  dsimp only at hat ⊢
  clear hx
  go_enter Tryz.func25, Tryz.ntmps25
  go_upto_region 13 with (go_at_call 46; refine (hat _ (HF.out.below hb2)).mono ?_; clear hat; rintro e w1 ⟨rfl, hb1⟩)
  have hT1 := blkT (blkH hb1 hT3.out) (.cells #[.string x.n, .string x.v, .bool x.q] 52)
  have hR1 := blkT (blkH hb1 hR3.out) (.cells #[.string x.n, .string x.v, .bool x.q] 52)
  have hF1 := blkT (blkH hb1 hF3.out) (.cells #[.string x.n, .string x.v, .bool x.q] 52)
  have hL1 := heap_alloc_last w1 (.cells #[.string x.n, .string x.v, .bool x.q] 52)
  have hBw := bt' hb2 hb1
  have hB1 := hBw.alloc hBw.size (.cells #[.string x.n, .string x.v, .bool x.q] 52)
  have hFs := HF.out.below hB1
  have hzz : w.heap.size + 1 + 1 + 1 ≤ w1.heap.size := by have := hb1.size; rw [hz3] at this; omega
  have hzU : (w1.alloc (.cells #[.string x.n, .string x.v, .bool x.q] 52)).heap.size = w1.heap.size + 1 := by simp
  clear hb1 hBw
  refine wabs (fun U => U.heap[w.heap.size]? = some (.cells #[.slice a n cap, .int .i64 max] 25 (0, 0)) ∧ U.heap[w.heap.size + 1]? = some (.cells #[.slice none 0 0, .int .i64 0] 25 (0, 0)) ∧ U.heap[w.heap.size + 1 + 1]? = some (.cells #[.string ⟨#[]⟩, .string ⟨#[]⟩, .bool false] 52 (0, 0)) ∧ U.heap[w1.heap.size]? = some (.cells #[.string x.n, .string x.v, .bool x.q] 52 (0, 0)) ∧ Fs U a n cap fs ∧ Below w.heap.size w U ∧ U.heap.size = w1.heap.size + 1) ⟨hT1, hR1, hF1, hL1, hFs, hB1, hzU⟩ ?_
  clear hT1 hR1 hF1 hL1 hFs hB1 hzU
  rintro U ⟨hT1, hR1, hF1, hL1, hFs, hB1, hzU⟩
  obtain ⟨t0, t1⟩ := row2c (W := U) hT1
  obtain ⟨l0, l1, l2⟩ := row3c (W := U) hL1
  obtain ⟨r0, r1⟩ := row2c (W := U) hR1
  obtain ⟨d0, d1, d2⟩ := row3c (W := U) hF1
  have f0 := frz (W := U) 0 hR1
  have f1 := frz (W := U) 1 hR1
  have e0 := frz (W := U) 0 hF1
  have e1 := frz (W := U) 1 hF1
  have e2 := frz (W := U) 2 hF1
  have k2 := frz (W := U) 2 hL1
  go_wp2
  have hLs := setc_heap 2 (.bool true) hL1
  have hTs := setc_other (B := w1.heap.size) 2 (.bool true) hT1 (by omega)
  have hRs := setc_other (B := w1.heap.size) 2 (.bool true) hR1 (by omega)
  have hDs := setc_other (B := w1.heap.size) 2 (.bool true) hF1 (by omega)
  have hBs := hB1.setCell (p := ⟨w1.heap.size, 2, none⟩) (by show w.heap.size ≤ w1.heap.size; omega) (.bool true)
  obtain ⟨lt0, lt1⟩ := row2c hTs
  obtain ⟨ll0, ll1, ll2⟩ := row3c hLs
  obtain ⟨rr0, rr1⟩ := row2c hRs
  obtain ⟨dd0, dd1, dd2⟩ := row3c hDs
  have ff0 := frz 0 hRs
  have ff1 := frz 1 hRs
  have ee0 := frz 0 hDs
  have ee1 := frz 1 hDs
  have ee2 := frz 2 hDs
  go_region
  go_wp2
  exact bodyPost_ret (results_cc1 rfl _ _ (w.heap.size + 1) (w.heap.size + 1 + 1) #[.slice a n cap, .int .i64 max] #[.string x.n, .string x.v, .bool true] rfl (load_tab (two_rowsd hRs hDs _ _ _ _ _).1) rfl (load_fld (two_rowsd hRs hDs _ _ _ _ _).2)) rfl ⟨rfl, bel5d (B := w.heap.size + 1) hBs (by omega) _ _ _ _ _⟩
set_option maxRecDepth 100000 in
set_option maxHeartbeats 4000000 in
theorem step_added (fs : List Fd) (a : Option Addr) (n cap : Nat) (max p : Int) (nm v : ByteArray) (w : World) (hf : Fs w a n cap fs) (ht : tOk fs max = true) (hs : (fieldV fs p nm v).1.n.size ≤ 1000 ∧ (fieldV fs p nm v).1.v.size ≤ 1000) :
    Calls Tryz.prog 25 #[.agg #[.slice a n cap, .int .i64 max], .iface 81 (.agg #[.int .i64 p, .string nm, .string v])] w fun e w' => ∃ a2 c2, e = .returned (.tuple #[.agg #[.slice a2 (addV fs max (fieldV fs p nm v).1).1.length c2, .int .i64 (addV fs max (fieldV fs p nm v).1).2], (fieldV fs p nm v).1.val, .bool (fieldV fs p nm v).2]) ∧ w'.ownsRow w.heap.size 52 3 (.slice a2 (addV fs max (fieldV fs p nm v).1).1.length c2) (addV fs max (fieldV fs p nm v).1).1.length (cellsF (addV fs max (fieldV fs p nm v).1).1) ∧ Below w.heap.size w w' := by
  have hat := fun (w' : World) (h : Fs w' a n cap fs) => field_any fs a n cap max p nm v w' h ht
  have hty1 := fun W => as_added1 W (.agg #[.int .i64 p, .string nm, .string v])
  have hty2 := fun W => as_added2 W (.agg #[.int .i64 p, .string nm, .string v])
  obtain ⟨⟨x, ok⟩, hx⟩ : ∃ r, fieldV fs p nm v = r := ⟨_, rfl⟩
  rw [hx] at hat hs ⊢
  dsimp only at hs ⊢
  have hadd := fun (w' : World) (h : Fs w' a n cap fs) => implTableAdd fs x a n cap max w' h (bd_ok ht) ⟨by omega, by omega⟩ (by have := tOk_len ht; have := hf.len; omega)
  unfold TabAns at hadd
  have hb2 : Below w.heap.size w ((((w.alloc (.cells #[.slice a n cap, .int .i64 max] 25)).alloc (.cells #[.slice none 0 0, .int .i64 0] 25)).alloc (.cells #[.string ⟨#[]⟩, .string ⟨#[]⟩, .bool false] 52)).alloc (.cells #[.int .i64 p, .string nm, .string v] 81)) := ((((Below.refl _ _).alloc (Nat.le_refl _) _).alloc (by simp) _).alloc (by simp; omega) _).alloc (by simp; omega) _
  have hT3 : Hid (((((w.alloc (.cells #[.slice a n cap, .int .i64 max] 25)).alloc (.cells #[.slice none 0 0, .int .i64 0] 25)).alloc (.cells #[.string ⟨#[]⟩, .string ⟨#[]⟩, .bool false] 52)).alloc (.cells #[.int .i64 p, .string nm, .string v] 81)).heap[w.heap.size]? = some (.cells #[.slice a n cap, .int .i64 max] 25 (0, 0))) := blkT (blkT (blkT (heap_alloc_last w _) _) _) _
  have hR3 : Hid (((((w.alloc (.cells #[.slice a n cap, .int .i64 max] 25)).alloc (.cells #[.slice none 0 0, .int .i64 0] 25)).alloc (.cells #[.string ⟨#[]⟩, .string ⟨#[]⟩, .bool false] 52)).alloc (.cells #[.int .i64 p, .string nm, .string v] 81)).heap[w.heap.size + 1]? = some (.cells #[.slice none 0 0, .int .i64 0] 25 (0, 0))) := by
    have h := heap_alloc_last (w.alloc (.cells #[.slice a n cap, .int .i64 max] 25)) (.cells #[.slice none 0 0, .int .i64 0] 25)
    rw [World.size_alloc] at h
    exact blkT (blkT h _) _
  have hF3 : Hid (((((w.alloc (.cells #[.slice a n cap, .int .i64 max] 25)).alloc (.cells #[.slice none 0 0, .int .i64 0] 25)).alloc (.cells #[.string ⟨#[]⟩, .string ⟨#[]⟩, .bool false] 52)).alloc (.cells #[.int .i64 p, .string nm, .string v] 81)).heap[w.heap.size + 1 + 1]? = some (.cells #[.string ⟨#[]⟩, .string ⟨#[]⟩, .bool false] 52 (0, 0))) := by
    have h := heap_alloc_last ((w.alloc (.cells #[.slice a n cap, .int .i64 max] 25)).alloc (.cells #[.slice none 0 0, .int .i64 0] 25)) (.cells #[.string ⟨#[]⟩, .string ⟨#[]⟩, .bool false] 52)
    rw [World.size_alloc, World.size_alloc] at h
    exact blkT h _
  have hz3 : ((((w.alloc (.cells #[.slice a n cap, .int .i64 max] 25)).alloc (.cells #[.slice none 0 0, .int .i64 0] 25)).alloc (.cells #[.string ⟨#[]⟩, .string ⟨#[]⟩, .bool false] 52)).alloc (.cells #[.int .i64 p, .string nm, .string v] 81)).heap.size = w.heap.size + 1 + 1 + 1 + 1 := by simp
  have HF : Hid (Fs w a n cap fs) := hf
  clear hf ht
  obtain ⟨⟨gs, mx⟩, hgs⟩ : ∃ r, addV fs max x = r := ⟨_, rfl⟩
  rw [hgs] at hadd ⊢
  unfold Fd.val at hat hadd ⊢
  dsimp only at hat hadd ⊢
  clear hx hgs
  have hmx : Tryz.prog.follows .mixedOrders = true := by kernel_rfl
  go_enter Tryz.func25, Tryz.ntmps25
  go_upto_region 9 with (go_at_call 46; refine (hat _ (HF.out.below hb2)).mono ?_; clear hat; rintro e w1 ⟨rfl, hb1⟩)
  have hT1 := blkT (blkH hb1 hT3.out) (.cells #[.string x.n, .string x.v, .bool x.q] 52)
  have hR1 := blkT (blkH hb1 hR3.out) (.cells #[.string x.n, .string x.v, .bool x.q] 52)
  have hF1 := blkT (blkH hb1 hF3.out) (.cells #[.string x.n, .string x.v, .bool x.q] 52)
  have hL1 := heap_alloc_last w1 (.cells #[.string x.n, .string x.v, .bool x.q] 52)
  have hBw := bt' hb2 hb1
  have hB1 := hBw.alloc hBw.size (.cells #[.string x.n, .string x.v, .bool x.q] 52)
  have hFs := HF.out.below hB1
  have hzz : w.heap.size + 1 + 1 + 1 ≤ w1.heap.size := by have := hb1.size; rw [hz3] at this; omega
  have hzU : (w1.alloc (.cells #[.string x.n, .string x.v, .bool x.q] 52)).heap.size = w1.heap.size + 1 := by simp
  clear hb1 hBw
  refine wabs (fun U => U.heap[w.heap.size]? = some (.cells #[.slice a n cap, .int .i64 max] 25 (0, 0)) ∧ U.heap[w.heap.size + 1]? = some (.cells #[.slice none 0 0, .int .i64 0] 25 (0, 0)) ∧ U.heap[w.heap.size + 1 + 1]? = some (.cells #[.string ⟨#[]⟩, .string ⟨#[]⟩, .bool false] 52 (0, 0)) ∧ U.heap[w1.heap.size]? = some (.cells #[.string x.n, .string x.v, .bool x.q] 52 (0, 0)) ∧ Fs U a n cap fs ∧ Below w.heap.size w U ∧ U.heap.size = w1.heap.size + 1) ⟨hT1, hR1, hF1, hL1, hFs, hB1, hzU⟩ ?_
  clear hT1 hR1 hF1 hL1 hFs hB1 hzU
  rintro U ⟨hT1, hR1, hF1, hL1, hFs, hB1, hzU⟩
  obtain ⟨t0, t1⟩ := row2c (W := U) hT1
  obtain ⟨l0, l1, l2⟩ := row3c (W := U) hL1
  obtain ⟨r0, r1⟩ := row2c (W := U) hR1
  obtain ⟨d0, d1, d2⟩ := row3c (W := U) hF1
  have f0 := frz (W := U) 0 hR1
  have f1 := frz (W := U) 1 hR1
  have e0 := frz (W := U) 0 hF1
  have e1 := frz (W := U) 1 hF1
  have e2 := frz (W := U) 2 hF1
  have k2 := frz (W := U) 2 hL1
  have hSU : U.drew.cell? ⟨w.heap.size, 0, none⟩ = some (.slice a n cap) ∧ U.drew.cell? ⟨w.heap.size, 1, none⟩ = some (.int .i64 max) ∧ U.drew.cell? ⟨w1.heap.size, 0, none⟩ = some (.string x.n) ∧ U.drew.cell? ⟨w1.heap.size, 1, none⟩ = some (.string x.v) ∧ U.drew.cell? ⟨w1.heap.size, 2, none⟩ = some (.bool x.q) := ⟨t0, t1, l0, l1, l2⟩
  have hFsd : Fs U.drew a n cap fs := hFs.below ((Below.refl _ _).drew)
  have hTd : U.drew.heap[w.heap.size]? = some (.cells #[.slice a n cap, .int .i64 max] 25 (0, 0)) := hT1
  have hLd : U.drew.heap[w1.heap.size]? = some (.cells #[.string x.n, .string x.v, .bool x.q] 52 (0, 0)) := hL1
  have hRd : U.drew.heap[w.heap.size + 1]? = some (.cells #[.slice none 0 0, .int .i64 0] 25 (0, 0)) := hR1
  have hDd : U.drew.heap[w.heap.size + 1 + 1]? = some (.cells #[.string ⟨#[]⟩, .string ⟨#[]⟩, .bool false] 52 (0, 0)) := hF1
  go_region_held3 (fun w' => w'.cell? ⟨w.heap.size, 0, none⟩ = some (.slice a n cap) ∧ w'.cell? ⟨w.heap.size, 1, none⟩ = some (.int .i64 max) ∧ w'.cell? ⟨w1.heap.size, 0, none⟩ = some (.string x.n) ∧ w'.cell? ⟨w1.heap.size, 1, none⟩ = some (.string x.v) ∧ w'.cell? ⟨w1.heap.size, 2, none⟩ = some (.bool x.q)) (first | with_reducible assumption | ((refine ⟨?_, ?_, ?_, ?_, ?_⟩) <;> ((iterate 5 (try rw [cell_set _ _ _ _ (by dsimp only; omega)])); with_reducible assumption))) ((first | (go_at_call 47; refine (hadd _ hFsd).mono ?_; clear hadd; rintro e w2 ⟨v2, rfl, hown2, hb2'⟩; obtain ⟨a2, c2, rfl⟩ := own_formT hown2; have hge := own_ge hown2; obtain ⟨y0, y1⟩ := row2c (blkH hb2' hTd); obtain ⟨y2, y3, y4⟩ := row3c (blkH hb2' hLd); have hS2 : w2.cell? ⟨w.heap.size, 0, none⟩ = some (.slice a n cap) ∧ w2.cell? ⟨w.heap.size, 1, none⟩ = some (.int .i64 max) ∧ w2.cell? ⟨w1.heap.size, 0, none⟩ = some (.string x.n) ∧ w2.cell? ⟨w1.heap.size, 1, none⟩ = some (.string x.v) ∧ w2.cell? ⟨w1.heap.size, 2, none⟩ = some (.bool x.q) := ⟨y0, y1, y2, y3, y4⟩; have hR2 := blkH hb2' hRd; have hF2r := blkH hb2' hDd; obtain ⟨rr0, rr1⟩ := row2c hR2; obtain ⟨dd0, dd1, dd2⟩ := row3c hF2r; have ff0 := frz 0 hR2; have ff1 := frz 1 hR2; have ee0 := frz 0 hF2r; have ee1 := frz 1 hF2r; have ee2 := frz 2 hF2r)))
  go_wp2
  have hBz := hB1.size
  have hzd : U.drew.heap.size = U.heap.size := rfl
  have hn1 : some (w.heap.size + 1) ≠ (Value.slice a2 gs.length c2).ownBlock := not_rowT hR2 (by decide) hown2
  have hn2 : some (w.heap.size + 1 + 1) ≠ (Value.slice a2 gs.length c2).ownBlock := by
    intro e
    have := (hown2.lt _ e.symm).1
    rw [hzd, hzU] at this
    omega
  exact bodyPost_ret (results_cc1 rfl _ _ (w.heap.size + 1) (w.heap.size + 1 + 1) #[.slice a2 gs.length c2, .int .i64 mx] #[.string x.n, .string x.v, .bool x.q] rfl (load_tab (two_rows hR2 hF2r _ _ _ _ _).1) rfl (load_fld (two_rows hR2 hF2r _ _ _ _ _).2)) rfl ⟨a2, c2, rfl, own_baseT (own_setT (own_setT (own_setT (own_setT (own_setT hown2 ⟨w.heap.size + 1, 0, none⟩ _ hn1) ⟨w.heap.size + 1, 1, none⟩ _ hn1) ⟨w.heap.size + 1 + 1, 0, none⟩ _ hn2) ⟨w.heap.size + 1 + 1, 1, none⟩ _ hn2) ⟨w.heap.size + 1 + 1, 2, none⟩ _ hn2) (by rw [hzd, hzU]; omega), bel5 (B := w.heap.size + 1) (bt' hB1.drew hb2') (by omega) _ _ _ _ _⟩
end Go.Proofs.YtbhoafiolalgaaaGreat
