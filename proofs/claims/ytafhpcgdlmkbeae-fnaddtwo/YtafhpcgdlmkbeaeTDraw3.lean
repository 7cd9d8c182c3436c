import Derived.Test.YtafhpcgdlmkbeaeTDraw2
namespace Go.Proofs.Ytafhpcgdlmkbeae
open Go.RowKit
set_option linter.unusedVariables false

theorem St2.bel {w w1 w2 : World} {b N B : Nat} (hb : Below B w w1) (h : St2 w1 w2 b N) (hB : B ≤ b) (hs : B ≤ w1.heap.size) : Below B w w2 :=
  hb.grown h.kept hs (fun q hq => by injection hq with hq; omega)
theorem open_st2 (a : Option Addr) (len cap : Nat) (zs : List Int) (w : World) (hr : Row w a len cap zs) :
    Calls Try.prog 30 #[.slice a len cap] w fun e w' => e = .returned (.pointer (some ⟨w.heap.size, 0, none⟩)) ∧ St2 w' w' w.heap.size 0 ∧ Below w.heap.size w w' ∧ w'.heap.size = w.heap.size + 1 := by
  refine (l6Open_any a len cap zs w hr).mono ?_
  rintro e w' ⟨rfl, hd, hb, hs⟩
  exact ⟨rfl, St2.start hd (by omega), hb, hs⟩
theorem blkB {w w' : World} {B : Nat} {o : Obj} (hb : Below w.heap.size w w') (h : w.heap[B]? = some o) : w'.heap[B]? = some o := (hb.block _ (Array.getElem?_eq_some_iff.1 h).1).trans h
theorem results_cell_cell {fn : Func} {p q : Tmp} {ty ty2 : TypeId} (h : fn.results = #[.cell p ty, .cell q ty2]) (tmps : Array Value) (w : World) (g g2 : Nat) (cs cs2 : Array Value)
    (hp : tmps.getD p undef = .pointer (some ⟨g, 0, none⟩)) (hq : tmps.getD q undef = .pointer (some ⟨g2, 0, none⟩)) (hl : (loadVar ty ⟨g, 0, none⟩).run Try.prog w = .ok (.agg cs) w) (hl2 : (loadVar ty2 ⟨g2, 0, none⟩).run Try.prog w = .ok (.agg cs2) w) :
    (results fn tmps).run Try.prog w = .ok (.tuple #[.agg cs, .agg cs2]) w := by
  have hp' : tmps[p]?.getD undef = .pointer (some ⟨g, 0, none⟩) := by simpa using hp
  have hq' : tmps[q]?.getD undef = .pointer (some ⟨g2, 0, none⟩) := by simpa using hq
  simp [results, h, hp', hq', asAddr, hl, hl2]
theorem load_tab {w : World} {g : Nat} {x y : Value} (hg : w.heap[g]? = some (.cells #[x, y] 25 (0, 0))) : (loadVar 25 ⟨g, 0, none⟩).run Try.prog w = .ok (.agg #[x, y]) w :=
  run_loadVar_row w g 25 25 #[x, y] (0, 0) _ hg Try.underlying25 rfl infoT2
theorem setRow_other {w : World} {g B : Nat} {o : Obj} (cs : Array Value) (h : w.heap[B]? = some o) (hne : B ≠ g) : (w.setRow g cs).heap[B]? = some o :=
  ((grown_setRowT w g cs).block B (Array.getElem?_eq_some_iff.1 h).1 (fun e => hne (by injection e))).trans h
theorem own_setRowT {w : World} {base g n : Nat} {e t : TypeId} {C : Array Value} {fr : Nat × Nat} {v : Value} {xs : List Value} (cs : Array Value) (h : w.ownsRow base e 3 v n xs) (hg : w.heap[g]? = some (.cells C t fr)) (hte : t ≠ e) : (w.setRow g cs).ownsRow base e 3 v n xs :=
  h.kept (grown_setRowT w g cs) (.inr (fun e' => not_rowT hg hte h e'.symm))
theorem bel_setRow {w0 w : World} {B g : Nat} (cs : Array Value) (h : Below B w0 w) (hB : B ≤ w.heap.size) (hg : B ≤ g) : Below B w0 (w.setRow g cs) :=
  h.grown (grown_setRowT w g cs) hB (fun q hq => by injection hq with hq; omega)
/-- A drawn table in memory. -/
def DT (w' : World) (fs : List Fd) (max : Int) (a : Option Addr) (cap : Nat) : Prop := fs.length ≤ 22 ∧ fsSm fs ∧ -1 ≤ max ∧ max ≤ 65 ∧ Fs w' a fs.length cap fs

set_option maxRecDepth 100000 in
set_option maxHeartbeats 1000000 in
theorem drawTableAdd (a : Option Addr) (len cap : Nat) (zs : List Int) (w : World) (hr : Row w a len cap zs) :
    Calls Try.prog 26 #[.slice a len cap] w fun e w' => ∃ (fs : List Fd) (max : Int) (a' : Option Addr) (c' : Nat) (f : Fd), e = .returned (.tuple #[.agg #[.slice a' fs.length c', .int .i64 max], f.val]) ∧ DT w' fs max a' c' ∧ f.n.size ≤ 20 ∧ f.v.size ≤ 20 ∧ Below w.heap.size w w' := by
  have HR : Hid (Row w a len cap zs) := hr
  clear hr
  have hb0 : Below w.heap.size w ((w.alloc (.cells #[.slice none 0 0, .int .i64 0] 25)).alloc (.cells #[.string ⟨#[]⟩, .string ⟨#[]⟩, .bool false] 35)) := ((Below.refl _ _).alloc (Nat.le_refl _) _).alloc (by simp) _
  have hR0 : Hid (((w.alloc (.cells #[.slice none 0 0, .int .i64 0] 25)).alloc (.cells #[.string ⟨#[]⟩, .string ⟨#[]⟩, .bool false] 35)).heap[w.heap.size]? = some (.cells #[.slice none 0 0, .int .i64 0] 25 (0, 0))) := blkT (heap_alloc_last w _) _
  have hG0 : Hid (((w.alloc (.cells #[.slice none 0 0, .int .i64 0] 25)).alloc (.cells #[.string ⟨#[]⟩, .string ⟨#[]⟩, .bool false] 35)).heap[w.heap.size + 1]? = some (.cells #[.string ⟨#[]⟩, .string ⟨#[]⟩, .bool false] 35 (0, 0))) := by
    have h := heap_alloc_last (w.alloc (.cells #[.slice none 0 0, .int .i64 0] 25)) (.cells #[.string ⟨#[]⟩, .string ⟨#[]⟩, .bool false] 35)
    rw [World.size_alloc] at h
    exact h
  go_enter Try.func26, Try.ntmps26
  go_wp2_with fail
  refine (open_st2 _ _ _ _ _ (HR.out.below hb0)).mono ?_
  rw [World.size_alloc, World.size_alloc]
  rintro e w1 ⟨rfl, s1, hb1, hz1⟩
  have hR1 := (hb1.block w.heap.size (by omega)).trans hR0.out
  have hG1 := (hb1.block (w.heap.size + 1) (by omega)).trans hG0.out
  have hB1 : Below w.heap.size w w1 := hb0.trans (hb1.mono (by omega))
  clear hR0 hG0 hb0 hb1
  go_wp2_with fail
  refine (l71Table_any (w.heap.size + 1 + 1) 0 _ _ s1 (by decide)).mono ?_
  rintro e w2 ⟨fs, max, a', c', rfl, hl, hsm, m0, m1, hown, s2⟩
  have hR2 := s2.blk hR1 (by omega)
  have hG2 := s2.blk hG1 (by omega)
  have hB2 := s2.bel hB1 (by omega) hB1.size
  have HSM : Hid (fsSm fs) := hsm
  clear s1 hR1 hG1 hB1 hsm
  go_wp2_with fail
  refine (l71Field_v (w.heap.size + 1 + 1) 1000 _ _ s2.self (by decide)).mono ?_
  rintro e w3 ⟨f, rfl, hfn, hfv, k3⟩
  have hR3 := k3.blk hR2 (by omega)
  have hG3 := k3.blk hG2 (by omega)
  have hB3 := k3.bel hB2 (by omega) hB2.size
  have hO3 := own_st2 hown k3 (by omega)
  clear s2 k3 hR2 hG2 hB2 hown
  have hG4 := setRow_other #[.slice a' fs.length c', .int .i64 max] hG3 (show w.heap.size + 1 ≠ w.heap.size by omega)
  go_wp2_with (first | (refine wpList_store_row rfl 25 _ _ rfl w.heap.size #[.slice a' fs.length c', .int .i64 max] rfl rfl 25 _ hR3 infoT2 rfl (by simp [Value.oneCell']) ?_) | (refine wpList_store_row rfl 35 _ _ rfl (w.heap.size + 1) #[.string f.n, .string f.v, .bool f.q] rfl rfl 35 _ hG4 infoF3 rfl (by simp [Value.oneCell']) ?_))
  have hR5 := setRow_other #[.string f.n, .string f.v, .bool f.q] (setRow_heap _ _ _ #[.slice a' fs.length c', .int .i64 max] _ _ hR3) (show w.heap.size ≠ w.heap.size + 1 by omega)
  have hO4 := own_setRowT #[.slice a' fs.length c', .int .i64 max] hO3 hR3 (by decide)
  have hB4 := bel_setRow #[.slice a' fs.length c', .int .i64 max] hB3 hB3.size (Nat.le_refl _)
  have hO5 : ((w3.setRow w.heap.size #[.slice a' fs.length c', .int .i64 max]).setRow (w.heap.size + 1) #[.string f.n, .string f.v, .bool f.q]).ownsRow w1.heap.size 35 3 (.slice a' fs.length c') fs.length (cellsF fs) := by
    refine hO4.kept (grown_setRowT _ _ _) (.inr fun e => ?_)
    have := (hO4.lt _ e).1
    omega
  exact bodyPost_ret (results_cell_cell rfl _ _ w.heap.size (w.heap.size + 1) #[.slice a' fs.length c', .int .i64 max] #[.string f.n, .string f.v, .bool f.q] rfl rfl (load_tab hR5) (load_fld (setRow_heap _ _ _ _ _ _ hG4))) rfl ⟨fs, max, a', c', f, rfl, ⟨by omega, HSM.out, m0, m1, own_Fs hO5⟩, hfn, hfv, bel_setRow _ hB4 hB4.size (by omega)⟩

set_option maxRecDepth 100000 in
set_option maxHeartbeats 1000000 in
theorem drawTableLimit (a : Option Addr) (len cap : Nat) (zs : List Int) (w : World) (hr : Row w a len cap zs) :
    Calls Try.prog 9 #[.slice a len cap] w fun e w' => ∃ (fs : List Fd) (max : Int) (a' : Option Addr) (c' : Nat) (most : Int), e = .returned (.tuple #[.agg #[.slice a' fs.length c', .int .i64 max], .int .i64 most]) ∧ DT w' fs max a' c' ∧ -70 ≤ most ∧ most ≤ 65 ∧ Below w.heap.size w w' := by
  have HR : Hid (Row w a len cap zs) := hr
  clear hr
  have hb0 : Below w.heap.size w (w.alloc (.cells #[.slice none 0 0, .int .i64 0] 25)) := (Below.refl _ _).alloc (Nat.le_refl _) _
  have hR0 : Hid ((w.alloc (.cells #[.slice none 0 0, .int .i64 0] 25)).heap[w.heap.size]? = some (.cells #[.slice none 0 0, .int .i64 0] 25 (0, 0))) := heap_alloc_last w _
  go_enter Try.func9, Try.ntmps9
  go_wp2_with fail
  refine (open_st2 _ _ _ _ _ (HR.out.below hb0)).mono ?_
  rw [World.size_alloc]
  rintro e w1 ⟨rfl, s1, hb1, hz1⟩
  have hR1 := (hb1.block w.heap.size (by simp)).trans hR0.out
  have hB1 : Below w.heap.size w w1 := hb0.trans (hb1.mono (by simp))
  clear hR0 hb0 hb1
  go_wp2_with fail
  refine (l71Table_any (w.heap.size + 1) 0 _ _ s1 (by decide)).mono ?_
  rintro e w2 ⟨fs, max, a', c', rfl, hl, hsm, m0, m1, hown, s2⟩
  have hR2 := s2.blk hR1 (by omega)
  have hB2 := s2.bel hB1 (by omega) hB1.size
  have HSM : Hid (fsSm fs) := hsm
  clear s1 hR1 hB1 hsm
  go_wp2_with fail
  refine (pick_st2 (w.heap.size + 1) 1000 66 _ _ s2.self (by omega) (by decide)).mono ?_
  rintro e w3 ⟨v3, rfl, v30, v31, k3, _⟩
  have s3 := s2.step k3
  go_wp2_with fail
  refine (pick_st2 (w.heap.size + 1) 1001 24 _ _ k3 (by omega) (by decide)).mono ?_
  rintro e w4 ⟨v4, rfl, v40, v41, k4, _⟩
  have d0 : 0 ≤ v4 / 23 := by omega
  have d1 : v4 / 23 ≤ 1 := by omega
  have hR4 := k4.blk hR2 (by omega)
  have hB4 := k4.bel hB2 (by omega) hB2.size
  have hO4 := own_st2 hown k4 (by omega)
  clear s2 k3 s3 k4 hR2 hB2 hown
  go_wp2_with (refine wpList_store_row rfl 25 _ _ rfl w.heap.size #[.slice a' fs.length c', .int .i64 max] rfl rfl 25 _ hR4 infoT2 rfl (by simp [Value.oneCell']) ?_)
  exact bodyPost_ret (results_cell_tmp rfl _ _ w.heap.size #[.slice a' fs.length c', .int .i64 max] rfl (load_tab (setRow_heap _ _ _ _ _ _ hR4))) rfl ⟨fs, max, a', c', _, rfl, ⟨by omega, HSM.out, m0, m1, own_Fs (own_setRowT _ hO4 hR4 (by decide))⟩, by omega, by omega, bel_setRow _ hB4 hB4.size (Nat.le_refl _)⟩
end Go.Proofs.Ytafhpcgdlmkbeae
