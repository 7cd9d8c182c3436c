import Derived.Test.YtdnajdobmlgmiaaBK
import Derived.Test.YtdnajdobmlgmiaaBB
import Derived.Deep.RegionHeld3
import Derived.ChangeArms
import Derived.DataReads
import Derived.Deep.Slices
namespace Go.Proofs.Ytdnajdobmlgmiaa
open Go.RowKit
set_option linter.unusedVariables false

/-- A slice of fields that was handed in: where it has any they can be read. -/
structure FsA (w : World) (a : Option Addr) (n cap : Nat) (fs : List Fd) : Prop where
  len : fs.length = n
  nmax : n ≤ maxLen
  some' : 0 < n → ∃ g o, a = some ⟨g, o, none⟩ ∧ ∀ j u, (cellsF fs)[j]? = some u → w.cell? ⟨g, o + j, none⟩ = some u
  strs : ∀ f ∈ fs, f.n.size ≤ maxLen ∧ f.v.size ≤ maxLen
theorem FsA.below {w w' : World} {a : Option Addr} {n cap : Nat} {fs : List Fd} (h : FsA w a n cap fs) (hb : Below w.heap.size w w') : FsA w' a n cap fs := by
  refine ⟨h.len, h.nmax, ?_, h.strs⟩
  intro hn
  obtain ⟨g, o, e, hc⟩ := h.some' hn
  exact ⟨g, o, e, fun j u hu => keepc hb (hc j u hu)⟩
theorem FsA.at {w : World} {a : Option Addr} {n cap : Nat} {fs : List Fd} (h : FsA w a n cap fs) (k : Nat) (hk : k < fs.length) :
    ∃ g o, a = some ⟨g, o, none⟩ ∧ w.cell? ⟨g, o + k * 3, none⟩ = some (.string fs[k].n) ∧ w.cell? ⟨g, o + k * 3 + 1, none⟩ = some (.string fs[k].v) ∧ w.cell? ⟨g, o + k * 3 + 2, none⟩ = some (.bool fs[k].q) := by
  obtain ⟨g, o, e, hc⟩ := h.some' (by rw [← h.len]; omega)
  have h1 := cellsF_at fs k hk
  refine ⟨g, o, e, hc _ _ h1.1, ?_, ?_⟩
  · have := hc _ _ h1.2.1
    rwa [show o + (k * 3 + 1) = o + k * 3 + 1 by omega] at this
  · have := hc _ _ h1.2.2
    rwa [show o + (k * 3 + 2) = o + k * 3 + 2 by omega] at this

set_option maxRecDepth 100000 in
set_option maxHeartbeats 1000000 in
theorem szField_any (f : Fd) (left : Int) (w : World) (h1 : f.n.size ≤ maxLen) (h2 : f.v.size ≤ maxLen) (l0 : 0 ≤ left) (l1 : left ≤ 1048576) :
    Calls Try.prog 75 #[f.val, .int .i64 left] w fun e w' => e = .returned (.int .i64 (if left < (f.n.size : Int) + f.v.size then -1 else left - f.n.size - f.v.size)) ∧ Below w.heap.size w w' := by
  unfold maxLen at h1 h2
  unfold Fd.val
  by_cases c1 : left - (f.n.size : Int) < 0
  · rw [if_pos (by omega)]
    have hd : decide (left - (f.n.size : Int) < 0) = true := by simpa using c1
    go_enter Try.func75, Try.ntmps75
    go_wp2
    go_ret
    exact ⟨rfl, (Below.refl _ _).alloc (Nat.le_refl _) _⟩
  · have hd : decide (left - (f.n.size : Int) < 0) = false := by rw [decide_eq_false_iff_not]; exact c1
    have hn1 : (f.n.size : Int) ≤ left := by omega
    by_cases c2 : left - (f.n.size : Int) - f.v.size < 0
    · rw [if_pos (by omega)]
      have hd2 : decide (left - (f.n.size : Int) - f.v.size < 0) = true := by simpa using c2
      go_enter Try.func75, Try.ntmps75
      go_wp2
      go_ret
      exact ⟨rfl, (Below.refl _ _).alloc (Nat.le_refl _) _⟩
    · rw [if_neg (by omega)]
      have hd2 : decide (left - (f.n.size : Int) - f.v.size < 0) = false := by rw [decide_eq_false_iff_not]; exact c2
      go_enter Try.func75, Try.ntmps75
      go_wp2
      go_ret
      exact ⟨rfl, (Below.refl _ _).alloc (Nat.le_refl _) _⟩

set_option maxRecDepth 100000 in
set_option maxHeartbeats 2000000 in
theorem szFieldS_any (fs : List Fd) (a : Option Addr) (n cap : Nat) (left : Int) (w : World) (hf : FsA w a n cap fs) (l0 : 0 ≤ left) (l1 : left ≤ 1048576) :
    Calls Try.prog 55 #[.slice a n cap, .int .i64 left] w fun e w' => ∃ r : Int, e = .returned (.int .i64 r) ∧ (r = -1 ∨ (0 ≤ r ∧ r ≤ left ∧ (n : Int) ≤ left ∧ fsBd fs)) ∧ Below w.heap.size w w' := by
  have HF : Hid (FsA w a n cap fs) := hf
  have hlen := hf.len
  have hnm := hf.nmax
  unfold maxLen at hnm
  clear hf
  by_cases c1 : left - (n : Int) < 0
  · have hd : decide (left - (n : Int) < 0) = true := by simpa using c1
    go_enter Try.func55, Try.ntmps55
    go_wp2
    go_ret
    exact ⟨-1, rfl, .inl rfl, Below.refl _ _⟩
  · have hd : decide (left - (n : Int) < 0) = false := by rw [decide_eq_false_iff_not]; exact c1
    have hn2 : (n : Int) ≤ 1048576 := by omega
    go_enter Try.func55, Try.ntmps55
    go_wp2
    go_loopw [1, 5] (fun l i wr => ∃ (k : Nat) (r : Int), k ≤ n ∧ i = .int .i64 k ∧ l = .int .i64 r ∧ 0 ≤ r ∧ r ≤ left ∧ fsBd (fs.take k) ∧ Below w.heap.size w wr) (fun _ i _ => n - (intOf i).toNat)
    case atStart => exact ⟨0, left - n, by omega, rfl, rfl, by omega, by omega, (by intro f hf; simp at hf), Below.refl _ _⟩
    case round =>
      obtain ⟨k, r, hk, rfl, rfl, r0, r1, hbd, hbel⟩ := hrel
      have HBD : Hid (fsBd (fs.take k)) := hbd
      clear hbd
      by_cases hlt : k < n
      · have hlt' : (k : Int) < n := by omega
        have hk0 : (0 : Int) ≤ k := by omega
        have hkl : k < fs.length := by omega
        obtain ⟨g, o, rfl, c0, c1', c2⟩ := (HF.out.below hbel).at k hkl
        have hst := HF.out.strs fs[k] (List.getElem_mem hkl)
        have HTK : Hid (fs.take (k + 1) = fs.take k ++ [fs[k]]) := List.take_succ_eq_append_getElem hkl
        obtain ⟨f, hff⟩ : ∃ f, fs[k] = f := ⟨_, rfl⟩
        rw [hff] at c0 c1' c2 hst HTK
        have hsz := fun w => szField_any f r w hst.1 hst.2 r0 (by omega)
        unfold Fd.val at hsz
        clear hff
        by_cases hs : r < (f.n.size : Int) + f.v.size
        · rw [if_pos hs] at hsz
          go_wp2_with (go_at_call 75; refine (hsz _).mono ?_; clear hsz; rintro e w1 ⟨rfl, hb1⟩)
          go_ret
          exact ⟨-1, rfl, .inl rfl, bt' hbel hb1⟩
        · rw [if_neg hs] at hsz
          have hd3 : decide (r - (f.n.size : Int) - f.v.size < 0) = false := by rw [decide_eq_false_iff_not]; omega
          have hnn1 : (0 : Int) ≤ r - (f.n.size : Int) - f.v.size := by omega
          go_wp2_with (go_at_call 75; refine (hsz _).mono ?_; clear hsz; rintro e w1 ⟨rfl, hb1⟩)
          go_roundw
          case rel =>
            refine ⟨k + 1, r - (f.n.size : Int) - f.v.size, by omega, by go_num, rfl, by omega, by omega, ?_, bt' hbel hb1⟩
            rw [HTK.out]
            intro x hx
            rcases List.mem_append.1 hx with hx | hx
            · exact HBD.out x hx
            · simp at hx
              subst hx
              exact ⟨by omega, by omega⟩
          case measure => simp [intOf]; omega
      · have hall : fs.take k = fs := List.take_of_length_le (by omega)
        rw [hall] at HBD
        clear hall
        go_wp2
        go_ret
        exact ⟨r, rfl, .inr ⟨r0, r1, by omega, HBD.out⟩, hbel⟩

set_option maxRecDepth 100000 in
set_option maxHeartbeats 1000000 in
theorem szTable_any (fs : List Fd) (a : Option Addr) (n cap : Nat) (max left : Int) (w : World) (hf : FsA w a n cap fs) (l0 : 0 ≤ left) (l1 : left ≤ 1048576) :
    Calls Try.prog 34 #[.agg #[.slice a n cap, .int .i64 max], .int .i64 left] w fun e w' => ∃ r : Int, e = .returned (.int .i64 r) ∧ (r = -1 ∨ (0 ≤ r ∧ r ≤ left ∧ (n : Int) ≤ left ∧ fsBd fs)) ∧ Below w.heap.size w w' := by
  have hb0 : Below w.heap.size w (w.alloc (.cells #[.slice a n cap, .int .i64 max] 39)) := (Below.refl _ _).alloc (Nat.le_refl _) _
  have hs := szFieldS_any fs a n cap left _ (hf.below hb0) l0 l1
  clear hf
  go_enter Try.func34, Try.ntmps34
  go_wp2_with fail
  refine hs.mono ?_
  rintro e w1 ⟨r, rfl, hr, hb1⟩
  rcases hr with rfl | ⟨r0, r1, r2, r3⟩
  · go_wp2
    go_ret
    exact ⟨-1, rfl, .inl rfl, bt' hb0 hb1⟩
  · have HR3 : Hid (fsBd fs) := r3
    clear r3
    have hd : decide (r < 0) = false := by rw [decide_eq_false_iff_not]; omega
    go_wp2
    go_ret
    exact ⟨r, rfl, .inr ⟨r0, r1, r2, HR3.out⟩, bt' hb0 hb1⟩

set_option maxRecDepth 100000 in
set_option maxHeartbeats 1000000 in
theorem toField_any (f : Fd) (w : World) :
    Calls Try.prog 78 #[f.val] w fun e w' => e = .returned f.val ∧ Below w.heap.size w w' := by
  unfold Fd.val
  have hz : w.heap.size < w.heap.size + 1 := Nat.lt_succ_self _
  have hR : Hid ((((w.alloc (.cells #[.string f.n, .string f.v, .bool f.q] 107)).alloc (.cells #[.string ⟨#[]⟩, .string ⟨#[]⟩, .bool false] 98)).alloc (.cells #[.string f.n, .string f.v, .bool f.q] 98)).heap[w.heap.size + 1]? = some (.cells #[.string ⟨#[]⟩, .string ⟨#[]⟩, .bool false] 98 (0, 0))) := by
    have h := heap_alloc_last (w.alloc (.cells #[.string f.n, .string f.v, .bool f.q] 107)) (.cells #[.string ⟨#[]⟩, .string ⟨#[]⟩, .bool false] 98)
    rw [World.size_alloc] at h
    exact blkT h _
  have hb : Below w.heap.size w (((w.alloc (.cells #[.string f.n, .string f.v, .bool f.q] 107)).alloc (.cells #[.string ⟨#[]⟩, .string ⟨#[]⟩, .bool false] 98)).alloc (.cells #[.string f.n, .string f.v, .bool f.q] 98)) := (((Below.refl _ _).alloc (Nat.le_refl _) _).alloc (by simp) _).alloc (by simp; omega) _
  go_enter Try.func78, Try.ntmps78
  go_wp2_with (refine wpList_store_row rfl 98 _ _ rfl (w.heap.size + 1) #[.string f.n, .string f.v, .bool f.q] rfl rfl 98 _ hR.out infoF3 rfl (by simp [Value.oneCell']) ?_)
  exact bodyPost_ret (results_cell_row rfl _ _ (w.heap.size + 1) 98 #[.string f.n, .string f.v, .bool f.q] (0, 0) _ rfl (setRow_heap _ _ _ _ _ _ hR.out) Try.underlying98 rfl infoF3) rfl ⟨rfl, hb.grown (grown_setRowT _ _ _) hb.size (fun q hq => by injection hq with hq; omega)⟩
end Go.Proofs.Ytdnajdobmlgmiaa

namespace Go.Proofs.Ytdnajdobmlgmiaa
open Go.RowKit
set_option linter.unusedVariables false

theorem blkB2 {w w' : World} {B : Nat} {o : Obj} (hb : Below w.heap.size w w') (h : w.heap[B]? = some o) : w'.heap[B]? = some o := (hb.block _ (Array.getElem?_eq_some_iff.1 h).1).trans h
theorem cells_all (C : Array Value) (fs : List Fd) (hC : C.size = fs.length * 3) (h : ∀ j (hj : j < fs.length), atC C j fs[j]) : C.toList = cellsF fs := by
  apply List.ext_getElem?
  intro i
  rw [Array.getElem?_toList]
  by_cases hi : i < fs.length * 3
  · obtain ⟨j, r, hj, hr, rfl⟩ : ∃ j r, j < fs.length ∧ r < 3 ∧ i = j * 3 + r := ⟨i / 3, i % 3, by omega, by omega, by omega⟩
    have ha := h j hj
    have hc := cellsF_at fs j hj
    unfold atC at ha
    rcases (by omega : r = 0 ∨ r = 1 ∨ r = 2) with rfl | rfl | rfl
    · rw [Nat.add_zero, ha.1, hc.1]
    · rw [ha.2.1, hc.2.1]
    · rw [ha.2.2, hc.2.2]
  · rw [Array.getElem?_eq_none (by omega), List.getElem?_eq_none (by rw [cellsF_length]; omega)]

set_option maxRecDepth 100000 in
set_option maxHeartbeats 2000000 in
theorem toFieldS_any (fs : List Fd) (a : Option Addr) (n cap : Nat) (w : World) (hf : FsA w a n cap fs) (hn : n ≤ 1048576) :
    Calls Try.prog 64 #[.slice a n cap] w fun e w' => ∃ v, e = .returned v ∧ w'.ownsRow w.heap.size 98 3 v n (cellsF fs) ∧ Below w.heap.size w w' := by
  have HF : Hid (FsA w a n cap fs) := hf
  have hlen := hf.len
  clear hf
  obtain ⟨ii, hi, hz0, hz1, hz2⟩ := info_parts infoF
  have hmk := fun w => run_make (P := Try.prog) w 22 98 ii (.agg #[.string ⟨#[]⟩, .string ⟨#[]⟩, .bool false]) Try.underlying22 hi hz0 .i64 .i64 (n : Int) (n : Int) (by omega) (by omega) (by rw [hz2]; omega) (by omega)
  obtain ⟨M, hM⟩ : ∃ M, madeCells (Value.agg #[.string ⟨#[]⟩, .string ⟨#[]⟩, .bool false]).cells (((n : Nat) : Int).toNat * ii.size) = M := ⟨_, rfl⟩
  have hMs : M.size = n * 3 := by rw [← hM, size_madeCells, hz1]; simp
  rw [hM] at hmk
  simp only [Int.toNat_natCast] at hmk
  have HA : Hid ((w.alloc (.cells M 98)).heap[w.heap.size]? = some (.cells M 98 (0, 0))) := heap_alloc_last w _
  have HM : Hid (M.size = n * 3) := hMs
  clear hM hMs
  go_enter Try.func64, Try.ntmps64
  go_wp2
  go_loopw [4] (fun i wr => ∃ (k : Nat) (C : Array Value), k ≤ n ∧ i = .int .i64 k ∧ wr.heap[w.heap.size]? = some (.cells C 98 (0, 0)) ∧ C.size = n * 3 ∧ (∀ j (hj : j < fs.length), j < k → atC C j fs[j]) ∧ Below w.heap.size w wr) (fun i _ => n - (intOf i).toNat)
  case atStart => exact ⟨0, M, by omega, rfl, HA.out, HM.out, fun j hj h => absurd h (by omega), (Below.refl _ _).alloc (Nat.le_refl _) _⟩
  case round =>
    clear hmk
    obtain ⟨k, C, hk, rfl, hC, hCs, hat, hbel⟩ := hrel
    have HAT : Hid (∀ j (hj : j < fs.length), j < k → atC C j fs[j]) := hat
    clear hat
    by_cases hlt : k < n
    · have hlt' : (k : Int) < n := by omega
      have hk0 : (0 : Int) ≤ k := by omega
      have hkl : k < fs.length := by omega
      obtain ⟨g, o, rfl, c0, c1, c2⟩ := (HF.out.below hbel).at k hkl
      obtain ⟨f, hff⟩ : ∃ f, fs[k] = f := ⟨_, rfl⟩
      rw [hff] at c0 c1 c2
      have HFF : Hid (fs[k] = f) := hff
      have htf := fun w => toField_any f w
      unfold Fd.val at htf
      clear hff
      go_wp2_with (go_at_call 78; refine (htf _).mono ?_; clear htf; rintro e w1 ⟨rfl, hb1⟩; have hC1 := blkB2 hb1 hC; obtain ⟨x, y, z, p0, p1, p2, f0, f1, f2⟩ := rowP hC1 hCs hlt)
      go_roundw
      case rel =>
        refine ⟨k + 1, set3C C k f, by omega, by go_num, set3C_heap f hC1, by rw [set3C_size]; exact hCs, ?_, ?_⟩
        · intro j hj hjk
          by_cases e : k = j
          · subst e
            rw [HFF.out]
            exact set3C_at C k n f hlt hCs
          · exact set3C_other C k j f _ e (HAT.out j hj (by omega))
        · have hb2 := bt' hbel hb1
          exact ((hb2.setCell (p := ⟨w.heap.size, k * 3, none⟩) (Nat.le_refl _) _).setCell (p := ⟨w.heap.size, k * 3 + 1, none⟩) (Nat.le_refl _) _).setCell (p := ⟨w.heap.size, k * 3 + 2, none⟩) (Nat.le_refl _) _
      case measure => simp [intOf]; omega
    · have HL : Hid (C.toList = cellsF fs) := cells_all C fs (by omega) (fun j hj => HAT.out j hj (by omega))
      go_wp2
      go_ret
      refine ⟨_, rfl, ⟨by rw [cellsF_length, hlen], .inr ⟨w.heap.size, n, C, rfl, Nat.le_refl _, hC, Nat.le_refl _, by unfold maxLen; omega, hCs, ?_⟩⟩, hbel⟩
      rw [HL.out, List.take_of_length_le (by rw [cellsF_length, hlen]; omega)]

set_option maxRecDepth 100000 in
set_option maxHeartbeats 1000000 in
theorem toTable_any (fs : List Fd) (a : Option Addr) (n cap : Nat) (max : Int) (w : World) (hf : FsA w a n cap fs) (hn : n ≤ 1048576) :
    Calls Try.prog 41 #[.agg #[.slice a n cap, .int .i64 max]] w (TabAns w (fs, max)) := by
  have hlen := hf.len
  have hb0 : Below w.heap.size w (((w.alloc (.cells #[.slice a n cap, .int .i64 max] 39)).alloc (.cells #[.slice none 0 0, .int .i64 0] 24)).alloc (.cells #[.slice none 0 0, .int .i64 0] 24)) := (((Below.refl _ _).alloc (Nat.le_refl _) _).alloc (by simp) _).alloc (by simp; omega) _
  have hto := toFieldS_any fs a n cap _ (hf.below hb0) hn
  have hA : Hid ((((w.alloc (.cells #[.slice a n cap, .int .i64 max] 39)).alloc (.cells #[.slice none 0 0, .int .i64 0] 24)).alloc (.cells #[.slice none 0 0, .int .i64 0] 24)).heap[w.heap.size]? = some (.cells #[.slice a n cap, .int .i64 max] 39 (0, 0))) := blkT (blkT (heap_alloc_last w _) _) _
  have hR : Hid ((((w.alloc (.cells #[.slice a n cap, .int .i64 max] 39)).alloc (.cells #[.slice none 0 0, .int .i64 0] 24)).alloc (.cells #[.slice none 0 0, .int .i64 0] 24)).heap[w.heap.size + 1]? = some (.cells #[.slice none 0 0, .int .i64 0] 24 (0, 0))) := by
    have h := heap_alloc_last (w.alloc (.cells #[.slice a n cap, .int .i64 max] 39)) (.cells #[.slice none 0 0, .int .i64 0] 24)
    rw [World.size_alloc] at h
    exact blkT h _
  have hO : Hid ((((w.alloc (.cells #[.slice a n cap, .int .i64 max] 39)).alloc (.cells #[.slice none 0 0, .int .i64 0] 24)).alloc (.cells #[.slice none 0 0, .int .i64 0] 24)).heap[w.heap.size + 1 + 1]? = some (.cells #[.slice none 0 0, .int .i64 0] 24 (0, 0))) := by
    have h := heap_alloc_last ((w.alloc (.cells #[.slice a n cap, .int .i64 max] 39)).alloc (.cells #[.slice none 0 0, .int .i64 0] 24)) (.cells #[.slice none 0 0, .int .i64 0] 24)
    rw [World.size_alloc, World.size_alloc] at h
    exact h
  clear hf
  go_enter Try.func41, Try.ntmps41
  go_wp2_with fail
  refine hto.mono ?_
  rintro e w1 ⟨v1, rfl, hown, hb1⟩
  obtain ⟨a1, c1, rfl⟩ := own_formT hown
  have hA1 := blkB2 hb1 hA.out
  have hR1 := blkB2 hb1 hR.out
  have hO1 := blkB2 hb1 hO.out
  have hB1 := bt' hb0 hb1
  have z0 := cell_of_row _ _ 0 _ _ _ hO1
  have f0 := frz 0 hO1
  have hO2 : (w1.setCell ⟨w.heap.size + 1 + 1, 0, none⟩ (.slice a1 n c1)).heap[w.heap.size + 1 + 1]? = some (.cells #[.slice a1 n c1, .int .i64 0] 24 (0, 0)) := setC_heap 0 (.slice a1 n c1) hO1
  have hA2 := setC_other 0 (.slice a1 n c1) (show w.heap.size ≠ w.heap.size + 1 + 1 by omega) hA1
  have hR2 := setC_other 0 (.slice a1 n c1) (show w.heap.size + 1 ≠ w.heap.size + 1 + 1 by omega) hR1
  have t1 := cell_of_row _ _ 1 _ _ _ hA2
  have z1 := cell_of_row _ _ 1 _ _ _ hO2
  have f1 := frz 1 hO2
  have hO3 : ((w1.setCell ⟨w.heap.size + 1 + 1, 0, none⟩ (.slice a1 n c1)).setCell ⟨w.heap.size + 1 + 1, 1, none⟩ (.int .i64 max)).heap[w.heap.size + 1 + 1]? = some (.cells #[.slice a1 n c1, .int .i64 max] 24 (0, 0)) := setC_heap 1 (.int .i64 max) hO2
  have hR3 := setC_other 1 (.int .i64 max) (show w.heap.size + 1 ≠ w.heap.size + 1 + 1 by omega) hR2
  have y0 := cell_of_row _ _ 0 _ _ _ hO3
  have y1 := cell_of_row _ _ 1 _ _ _ hO3
  have hne := not_rowT hO1 (by decide) hown
  have hOw := own_setT (own_setT hown ⟨w.heap.size + 1 + 1, 0, none⟩ (.slice a1 n c1) hne) ⟨w.heap.size + 1 + 1, 1, none⟩ (.int .i64 max) hne
  have hB3 := (hB1.setCell (p := ⟨w.heap.size + 1 + 1, 0, none⟩) (show w.heap.size ≤ w.heap.size + 1 + 1 by omega) (.slice a1 n c1)).setCell (p := ⟨w.heap.size + 1 + 1, 1, none⟩) (show w.heap.size ≤ w.heap.size + 1 + 1 by omega) (.int .i64 max)
  simp at z0 t1 z1 y0 y1
  clear hA1 hA2 hO1 hO2 hto hA hR hO
  go_wp2_with (refine wpList_store_row rfl 24 _ _ rfl (w.heap.size + 1) #[.slice a1 n c1, .int .i64 max] rfl rfl 24 _ hR3 infoT2 rfl (by simp [Value.oneCell']) ?_)
  refine bodyPost_ret (results_cell_row rfl _ _ (w.heap.size + 1) 24 #[.slice a1 n c1, .int .i64 max] (0, 0) _ rfl (setRow_heap _ _ _ _ _ _ hR3) Try.underlying24 rfl infoT2) rfl ⟨_, rfl, ?_, hB3.grown (grown_setRowT _ _ _) hB3.size (fun q hq => by injection hq with hq; omega)⟩
  show World.ownsRow _ w.heap.size 98 3 (.slice a1 n c1) fs.length (cellsF fs)
  rw [hlen]
  exact own_baseT (hOw.kept (grown_setRowT _ _ _) (.inr (fun e => not_rowT hR3 (by decide) hOw e.symm))) (by simp; omega)

set_option maxRecDepth 100000 in
set_option maxHeartbeats 1000000 in
theorem eqField_any (x y : Fd) (w : World) :
    Calls Try.prog 74 #[x.val, y.val] w fun e w' => e = .returned (.bool (eqF x y)) ∧ Below w.heap.size w w' := by
  have hb : Below w.heap.size w ((w.alloc (.cells #[.string x.n, .string x.v, .bool x.q] 98)).alloc (.cells #[.string y.n, .string y.v, .bool y.q] 98)) := ((Below.refl _ _).alloc (Nat.le_refl _) _).alloc (by simp) _
  unfold Fd.val eqF
  cases h1 : (x.n.toList == y.n.toList) with
  | false =>
    rw [Bool.false_and]
    go_enter Try.func74, Try.ntmps74
    go_wp2
    go_ret
    exact ⟨rfl, hb⟩
  | true =>
    rw [Bool.true_and]
    cases h2 : (x.v.toList == y.v.toList) with
    | false =>
      rw [Bool.false_and]
      go_enter Try.func74, Try.ntmps74
      go_wp2
      go_ret
      exact ⟨rfl, hb⟩
    | true =>
      rw [Bool.true_and]
      cases h3 : (x.q == y.q) with
      | false =>
        go_enter Try.func74, Try.ntmps74
        go_wp2
        go_ret
        exact ⟨rfl, hb⟩
      | true =>
        go_enter Try.func74, Try.ntmps74
        go_wp2
        go_ret
        exact ⟨rfl, hb⟩

set_option maxRecDepth 100000 in
set_option maxHeartbeats 2000000 in
theorem eqFieldS_any (fs gs : List Fd) (a a' : Option Addr) (n cap n' cap' : Nat) (w : World) (hf : Fs w a n cap fs) (hg : Fs w a' n' cap' gs) (hn : n ≤ 1048576) (hn' : n' ≤ 1048576) :
    Calls Try.prog 49 #[.slice a n cap, .slice a' n' cap'] w fun e w' => e = .returned (.bool (eqFs fs gs)) ∧ Below w.heap.size w w' := by
  have HF : Hid (Fs w a n cap fs) := hf
  have HG : Hid (Fs w a' n' cap' gs) := hg
  have hl1 := hf.len
  have hl2 := hg.len
  clear hf hg
  obtain ⟨R, hR⟩ : ∃ R, eqFs fs gs = R := ⟨_, rfl⟩
  have HR : Hid (eqFs fs gs = R) := hR
  rw [hR]
  clear hR
  by_cases hnn : n = n'
  · subst hnn
    go_enter Try.func49, Try.ntmps49
    go_wp2
    go_loopw [5] (fun i wr => ∃ k : Nat, k ≤ n ∧ i = .int .i64 k ∧ eqFs fs gs = eqFs (fs.drop k) (gs.drop k) ∧ Below w.heap.size w wr) (fun i _ => n - (intOf i).toNat)
    case atStart => exact ⟨0, by omega, rfl, rfl, Below.refl _ _⟩
    case round =>
      obtain ⟨k, hk, rfl, hq, hbel⟩ := hrel
      have HQ : Hid (eqFs fs gs = eqFs (fs.drop k) (gs.drop k)) := hq
      clear hq
      by_cases hlt : k < n
      · have hlt' : (k : Int) < n := by omega
        have hk0 : (0 : Int) ≤ k := by omega
        have k1 : k < fs.length := by omega
        have k2 : k < gs.length := by omega
        obtain ⟨g, o, rfl⟩ := HF.out.some' (by omega)
        obtain ⟨g', o', rfl⟩ := HG.out.some' (by omega)
        obtain ⟨c0, c1, c2⟩ := (HF.out.below hbel).at k k1
        obtain ⟨d0, d1, d2⟩ := (HG.out.below hbel).at k k2
        have HA : Hid (eqFs (fs.drop k) (gs.drop k) = (eqF fs[k] gs[k] && eqFs (fs.drop (k + 1)) (gs.drop (k + 1)))) := eqFs_at k1 k2
        obtain ⟨x, hx⟩ : ∃ x, fs[k] = x := ⟨_, rfl⟩
        obtain ⟨y, hy⟩ : ∃ y, gs[k] = y := ⟨_, rfl⟩
        rw [hx] at c0 c1 c2 HA
        rw [hy] at d0 d1 d2 HA
        have heq := fun w => eqField_any x y w
        unfold Fd.val at heq
        have hmx : Try.prog.follows .mixedOrders = true := by kernel_rfl
        clear hx hy
        have hkeepV : ∀ w1 w2 : World, Below w1.heap.size w1 w2 → (w1.cell? ⟨g, o + k * 3, none⟩ = some (.string x.n) ∧ w1.cell? ⟨g, o + k * 3 + 1, none⟩ = some (.string x.v) ∧ w1.cell? ⟨g, o + k * 3 + 2, none⟩ = some (.bool x.q) ∧ w1.cell? ⟨g', o' + k * 3, none⟩ = some (.string y.n) ∧ w1.cell? ⟨g', o' + k * 3 + 1, none⟩ = some (.string y.v) ∧ w1.cell? ⟨g', o' + k * 3 + 2, none⟩ = some (.bool y.q) ∧ Below wr.heap.size wr w1) → (w2.cell? ⟨g, o + k * 3, none⟩ = some (.string x.n) ∧ w2.cell? ⟨g, o + k * 3 + 1, none⟩ = some (.string x.v) ∧ w2.cell? ⟨g, o + k * 3 + 2, none⟩ = some (.bool x.q) ∧ w2.cell? ⟨g', o' + k * 3, none⟩ = some (.string y.n) ∧ w2.cell? ⟨g', o' + k * 3 + 1, none⟩ = some (.string y.v) ∧ w2.cell? ⟨g', o' + k * 3 + 2, none⟩ = some (.bool y.q) ∧ Below wr.heap.size wr w2) := by
          rintro w1 w2 hb ⟨h0, h1, h2, h3, h4, h5, hB⟩
          exact ⟨keepc hb h0, keepc hb h1, keepc hb h2, keepc hb h3, keepc hb h4, keepc hb h5, bt' hB hb⟩
        have hBelV : ∀ w' : World, (w'.cell? ⟨g, o + k * 3, none⟩ = some (.string x.n) ∧ w'.cell? ⟨g, o + k * 3 + 1, none⟩ = some (.string x.v) ∧ w'.cell? ⟨g, o + k * 3 + 2, none⟩ = some (.bool x.q) ∧ w'.cell? ⟨g', o' + k * 3, none⟩ = some (.string y.n) ∧ w'.cell? ⟨g', o' + k * 3 + 1, none⟩ = some (.string y.v) ∧ w'.cell? ⟨g', o' + k * 3 + 2, none⟩ = some (.bool y.q) ∧ Below wr.heap.size wr w') → Below wr.heap.size wr w' := fun w' h => h.2.2.2.2.2.2
        have hV0 : wr.cell? ⟨g, o + k * 3, none⟩ = some (.string x.n) ∧ wr.cell? ⟨g, o + k * 3 + 1, none⟩ = some (.string x.v) ∧ wr.cell? ⟨g, o + k * 3 + 2, none⟩ = some (.bool x.q) ∧ wr.cell? ⟨g', o' + k * 3, none⟩ = some (.string y.n) ∧ wr.cell? ⟨g', o' + k * 3 + 1, none⟩ = some (.string y.v) ∧ wr.cell? ⟨g', o' + k * 3 + 2, none⟩ = some (.bool y.q) ∧ Below wr.heap.size wr wr := ⟨c0, c1, c2, d0, d1, d2, Below.refl _ _⟩
        clear c0 c1 c2 d0 d1 d2
        cases hE : eqF x y with
        | true =>
          rw [hE] at HA heq
          have HA2 : Hid (eqFs fs gs = eqFs (fs.drop (k + 1)) (gs.drop (k + 1))) := by show eqFs fs gs = _; rw [HQ.out, HA.out, Bool.true_and]
          clear hE
          go_wp2
          go_region_held3 (fun w' => w'.cell? ⟨g, o + k * 3, none⟩ = some (.string x.n) ∧ w'.cell? ⟨g, o + k * 3 + 1, none⟩ = some (.string x.v) ∧ w'.cell? ⟨g, o + k * 3 + 2, none⟩ = some (.bool x.q) ∧ w'.cell? ⟨g', o' + k * 3, none⟩ = some (.string y.n) ∧ w'.cell? ⟨g', o' + k * 3 + 1, none⟩ = some (.string y.v) ∧ w'.cell? ⟨g', o' + k * 3 + 2, none⟩ = some (.bool y.q) ∧ Below wr.heap.size wr w') (first | assumption | exact hkeepV _ _ ((Below.refl _ _).drew) hV0 | exact hkeepV _ _ hbN (by assumption)) ((first | (go_at_call 74; refine (heq _).mono ?_; clear heq; rintro e wN ⟨rfl, hbN⟩)))
          go_wp2
          go_roundw
          case rel => exact ⟨k + 1, by omega, by go_num, HA2.out, bt' hbel (hBelV _ (by first | assumption | exact hkeepV _ _ hbN (by assumption)))⟩
          case measure => simp [intOf]; omega
        | false =>
          rw [hE] at HA heq
          have HA2 : Hid (R = false) := by show R = false; rw [← HR.out, HQ.out, HA.out, Bool.false_and]
          clear hE
          go_wp2
          go_region_held3 (fun w' => w'.cell? ⟨g, o + k * 3, none⟩ = some (.string x.n) ∧ w'.cell? ⟨g, o + k * 3 + 1, none⟩ = some (.string x.v) ∧ w'.cell? ⟨g, o + k * 3 + 2, none⟩ = some (.bool x.q) ∧ w'.cell? ⟨g', o' + k * 3, none⟩ = some (.string y.n) ∧ w'.cell? ⟨g', o' + k * 3 + 1, none⟩ = some (.string y.v) ∧ w'.cell? ⟨g', o' + k * 3 + 2, none⟩ = some (.bool y.q) ∧ Below wr.heap.size wr w') (first | assumption | exact hkeepV _ _ ((Below.refl _ _).drew) hV0 | exact hkeepV _ _ hbN (by assumption)) ((first | (go_at_call 74; refine (heq _).mono ?_; clear heq; rintro e wN ⟨rfl, hbN⟩)))
          go_wp2
          go_ret
          exact ⟨by rw [HA2.out]; rfl, bt' hbel (hBelV _ (by first | assumption | exact hkeepV _ _ hbN (by assumption)))⟩
      · have HA2 : Hid (R = true) := by
          show R = true
          rw [← HR.out, HQ.out, List.drop_of_length_le (by omega), List.drop_of_length_le (by omega)]; rfl
        go_wp2
        go_ret
        exact ⟨by rw [HA2.out]; rfl, hbel⟩
  · have HA2 : Hid (R = false) := by
      show R = false
      rw [← HR.out]; exact eqFs_len (by omega)
    have hnd : ((n : Int) == (n' : Int)) = false := by simp; omega
    go_enter Try.func49, Try.ntmps49
    go_wp2
    go_ret
    exact ⟨by rw [HA2.out]; rfl, Below.refl _ _⟩

set_option maxRecDepth 100000 in
set_option maxHeartbeats 1000000 in
theorem eqTable_same (fs : List Fd) (a a' : Option Addr) (cap cap' : Nat) (m : Int) (w : World) (hf : Fs w a fs.length cap fs) (hg : Fs w a' fs.length cap' fs) (hn : fs.length ≤ 1048576) :
    Calls Try.prog 24 #[.agg #[.slice a fs.length cap, .int .i64 m], .agg #[.slice a' fs.length cap', .int .i64 m]] w fun e w' => e = .returned (.bool true) ∧ Below w.heap.size w w' := by
  have hb2 : Below w.heap.size w ((w.alloc (.cells #[.slice a fs.length cap, .int .i64 m] 24)).alloc (.cells #[.slice a' fs.length cap', .int .i64 m] 24)) := ((Below.refl _ _).alloc (Nat.le_refl _) _).alloc (by simp) _
  have hT : Hid (((w.alloc (.cells #[.slice a fs.length cap, .int .i64 m] 24)).alloc (.cells #[.slice a' fs.length cap', .int .i64 m] 24)).heap[w.heap.size]? = some (.cells #[.slice a fs.length cap, .int .i64 m] 24 (0, 0))) := blkT (heap_alloc_last w _) _
  have hU : Hid (((w.alloc (.cells #[.slice a fs.length cap, .int .i64 m] 24)).alloc (.cells #[.slice a' fs.length cap', .int .i64 m] 24)).heap[w.heap.size + 1]? = some (.cells #[.slice a' fs.length cap', .int .i64 m] 24 (0, 0))) := by
    have h := heap_alloc_last (w.alloc (.cells #[.slice a fs.length cap, .int .i64 m] 24)) (.cells #[.slice a' fs.length cap', .int .i64 m] 24)
    rw [World.size_alloc] at h
    exact h
  have hlk := eqFieldS_any fs fs a a' _ cap _ cap' _ (hf.below hb2) (hg.below hb2) hn hn
  rw [eqFs_self] at hlk
  clear hf hg
  go_enter Try.func24, Try.ntmps24
  go_wp2_with (go_at_call 49; refine hlk.mono ?_; rintro e w1 ⟨rfl, hb1⟩; obtain ⟨q0, q1⟩ := row2c (blkB2 hb1 hT.out); obtain ⟨q2, q3⟩ := row2c (blkB2 hb1 hU.out))
  go_ret
  exact ⟨rfl, bt' hb2 hb1⟩
end Go.Proofs.Ytdnajdobmlgmiaa

namespace Go.Proofs.Ytdnajdobmlgmiaa
open Go.RowKit
set_option linter.unusedVariables false

set_option maxRecDepth 100000 in
theorem open_field {H : Type} {enc : TypeId × Value → H} {W : World} {base : Nat} {sp : Nat → Bool} {held : Bool} {fuel : Nat} {cs : List Value} {x : DataW H × List MemPlace} (h : DataW.trod enc Try.prog W base sp held fuel 107 cs = some x) :
    ∃ f : Fd, cs = [.string f.n, .string f.v, .bool f.q] ∧ f.n.size ≤ maxLen ∧ f.v.size ≤ maxLen := by
  obtain ⟨xs, n, _, _, hlen, hxl, hf⟩ := DataW.trod_struct Try.underlying107 h
  have hc3 : Try.prog.cellsOf 107 = 3 := by kernel_rfl
  have hcs : Try.prog.cellsOf 9 = 1 := by kernel_rfl
  have hcb : Try.prog.cellsOf 4 = 1 := by kernel_rfl
  rw [hc3] at hlen
  match cs, hlen, xs, hxl with
  | [a, b, c], _, [y0, y1, y2], _ =>
    have h0 := hf 0 _ rfl
    have h1 := hf 1 _ rfl
    have h2 := hf 2 _ rfl
    simp [hcs, hcb] at h0 h1 h2
    obtain ⟨s0, e0, _, g0⟩ := DataW.trod_string Try.underlying9 h0
    obtain ⟨s1, e1, _, g1⟩ := DataW.trod_string Try.underlying9 h1
    obtain ⟨b2, e2, _⟩ := DataW.trod_bool Try.underlying4 h2
    simp at e0 e1 e2
    subst e0 e1 e2
    exact ⟨⟨s0, s1, b2⟩, rfl, g0, g1⟩
theorem rows_of {W : World} {g o len : Nat} (h : ∀ i, i < len → ∃ f : Fd, (W.cell? ⟨g, o + i * 3, none⟩ = some (.string f.n) ∧ W.cell? ⟨g, o + i * 3 + 1, none⟩ = some (.string f.v) ∧ W.cell? ⟨g, o + i * 3 + 2, none⟩ = some (.bool f.q)) ∧ f.n.size ≤ maxLen ∧ f.v.size ≤ maxLen) (k : Nat) (hk : k ≤ len) :
    ∃ fs : List Fd, fs.length = k ∧ (∀ j u, (cellsF fs)[j]? = some u → W.cell? ⟨g, o + j, none⟩ = some u) ∧ ∀ f ∈ fs, f.n.size ≤ maxLen ∧ f.v.size ≤ maxLen := by
  induction k with
  | zero => exact ⟨[], rfl, (fun j u hu => by cases hu), (fun f hf => by cases hf)⟩
  | succ k ih =>
    obtain ⟨fs, h1, h2, h3⟩ := ih (by omega)
    obtain ⟨f, ⟨c0, c1, c2⟩, g0, g1⟩ := h k (by omega)
    refine ⟨fs ++ [f], by simp [h1], ?_, ?_⟩
    · intro j u hu
      rw [cellsF_append] at hu
      by_cases hj : j < (cellsF fs).length
      · rw [List.getElem?_append_left hj] at hu
        exact h2 j u hu
      · rw [List.getElem?_append_right (by omega), cellsF_length, h1] at hu
        rw [cellsF_length, h1] at hj
        obtain ⟨r, rfl⟩ : ∃ r, j = k * 3 + r := ⟨j - k * 3, by omega⟩
        rw [show k * 3 + r - k * 3 = r by omega] at hu
        match r, hu with
        | 0, hu => simp [cellsF] at hu; subst hu; rw [show o + (k * 3 + 0) = o + k * 3 by omega]; exact c0
        | 1, hu => simp [cellsF] at hu; subst hu; rw [show o + (k * 3 + 1) = o + k * 3 + 1 by omega]; exact c1
        | 2, hu => simp [cellsF] at hu; subst hu; rw [show o + (k * 3 + 2) = o + k * 3 + 2 by omega]; exact c2
        | r + 3, hu => simp [cellsF] at hu
    · intro x hx
      rcases List.mem_append.1 hx with hx | hx
      · exact h3 x hx
      · simp at hx
        subst hx
        exact ⟨g0, g1⟩
set_option maxRecDepth 100000 in
theorem open_fields {H : Type} {enc : TypeId × Value → H} {W : World} {base : Nat} {sp : Nat → Bool} {held : Bool} {fuel : Nat} {cs : List Value} {x : DataW H × List MemPlace} (h : DataW.trod enc Try.prog W base sp held fuel 37 cs = some x) :
    ∃ a n cap, cs = [.slice a n cap] ∧ ∃ fs, FsA W a n cap fs := by
  rcases Deep.open_slice Try.underlying37 h with ⟨rfl, _⟩ | ⟨a, len, cap, m, n, D, Pl, rfl, hb, hl, hm, hmm, _, hx⟩
  · exact ⟨none, 0, 0, rfl, [], rfl, by decide, (fun h => absurd h (by decide)), (fun f hf => by cases hf)⟩
  · have hc3 : Try.prog.cellsOf 107 = 3 := by kernel_rfl
    have hlm : len ≤ m := by rw [hmm]; split <;> omega
    refine ⟨some a, len, cap, rfl, ?_⟩
    by_cases h0 : len = 0
    · subst h0
      exact ⟨[], rfl, by decide, (fun h => absurd h (by decide)), (fun f hf => by cases hf)⟩
    · have hcell : ∀ i, i < len → ∃ f : Fd, (W.cell? (a.add (i * 3)) = some (.string f.n) ∧ W.cell? (a.add (i * 3 + 1)) = some (.string f.v) ∧ W.cell? (a.add (i * 3 + 2)) = some (.bool f.q)) ∧ f.n.size ≤ maxLen ∧ f.v.size ≤ maxLen := by
        intro i hi
        obtain ⟨cs', g1, g2⟩ := hx i (by omega)
        rw [hc3] at g1
        obtain ⟨_, hlen, hce⟩ := World.cells?_some g1
        obtain ⟨f, rfl, s1, s2⟩ := open_field g2
        have e0 := hce 0 (by omega)
        have e1 := hce 1 (by omega)
        have e2 := hce 2 (by omega)
        rw [Deep.add_add] at e0 e1 e2
        exact ⟨f, ⟨by simpa using e0, by simpa using e1, by simpa using e2⟩, s1, s2⟩
      have hsp : a.spot = none := by
        obtain ⟨f, ⟨c0, _, _⟩, _⟩ := hcell 0 (by omega)
        simpa [Addr.add] using World.cell?_spot c0
      obtain ⟨g, o, q⟩ := a
      simp only at hsp
      subst hsp
      obtain ⟨fs, f1, f2, f3⟩ := rows_of (W := W) (g := g) (o := o) (len := len) (by
        intro i hi
        obtain ⟨f, ⟨c0, c1, c2⟩, hs⟩ := hcell i hi
        rw [Addr.add_lit] at c0 c1 c2
        exact ⟨f, ⟨c0, by rwa [show o + (i * 3 + 1) = o + i * 3 + 1 by omega] at c1, by rwa [show o + (i * 3 + 2) = o + i * 3 + 2 by omega] at c2⟩, hs⟩) len (Nat.le_refl _)
      exact ⟨fs, f1, by omega, fun _ => ⟨g, o, rfl, f2⟩, f3⟩
set_option maxRecDepth 100000 in
theorem open_table {H : Type} {enc : TypeId × Value → H} {W : World} {base : Nat} {sp : Nat → Bool} {held : Bool} {fuel : Nat} {cs : List Value} {x : DataW H × List MemPlace} (h : DataW.trod enc Try.prog W base sp held fuel 39 cs = some x) :
    ∃ a n cap max, cs = [.slice a n cap, .int .i64 max] ∧ ∃ fs, FsA W a n cap fs := by
  obtain ⟨xs, n, _, _, hlen, hxl, hf⟩ := DataW.trod_struct Try.underlying39 h
  have hc2 : Try.prog.cellsOf 39 = 2 := by kernel_rfl
  have hcs : Try.prog.cellsOf 37 = 1 := by kernel_rfl
  have hci : Try.prog.cellsOf 3 = 1 := by kernel_rfl
  rw [hc2] at hlen
  match cs, hlen, xs, hxl with
  | [a, b], _, [y0, y1], _ =>
    have h0 := hf 0 _ rfl
    have h1 := hf 1 _ rfl
    simp [hcs, hci] at h0 h1
    obtain ⟨a', n', cap', e0, fs, hA⟩ := open_fields h0
    obtain ⟨m', e1, _⟩ := DataW.trod_int Try.underlying3 h1
    simp at e0 e1
    subst e0 e1
    exact ⟨a', n', cap', m', rfl, fs, hA⟩
end Go.Proofs.Ytdnajdobmlgmiaa
