import Derived.Test.YtafhpcgdlmkbeayTR1
import Derived.Test.YtafhpcgdlmkbeayTL0
import Derived.Test.YtafhpcgdlmkbeayTAdd2
namespace Go.Proofs.Ytafhpcgdlmkbeay
open Go.RowKit
set_option linter.unusedVariables false

/-- A slice of fields that was handed in: where it has any they can be read. -/
structure FsA (w : World) (a : Option Addr) (n cap : Nat) (fs : List Fd) : Prop where
  len : fs.length = n
  nmax : n ≤ maxLen
  some' : 0 < n → ∃ g o, a = some ⟨g, o, none⟩ ∧ ∀ j u, (cellsF fs)[j]? = some u → w.cell? ⟨g, o + j, none⟩ = some u
  strs : ∀ f ∈ fs, f.n.size ≤ maxLen ∧ f.v.size ≤ maxLen
theorem FsA.below {w w' : World} {a : Option Addr} {n cap : Nat} {fs : List Fd} (h : FsA w a n cap fs) (hb : Below w.heap.size w w') : FsA w' a n cap fs := by
  refine ⟨h.len, h.nmax, ?_, h.strs⟩
  intro hn
  obtain ⟨g, o, e, hc⟩ := h.some' hn
  exact ⟨g, o, e, fun j u hu => keepc hb (hc j u hu)⟩
theorem FsA.at {w : World} {a : Option Addr} {n cap : Nat} {fs : List Fd} (h : FsA w a n cap fs) (k : Nat) (hk : k < fs.length) :
    ∃ g o, a = some ⟨g, o, none⟩ ∧ w.cell? ⟨g, o + k * 3, none⟩ = some (.string fs[k].n) ∧ w.cell? ⟨g, o + k * 3 + 1, none⟩ = some (.string fs[k].v) ∧ w.cell? ⟨g, o + k * 3 + 2, none⟩ = some (.bool fs[k].q) := by
  obtain ⟨g, o, e, hc⟩ := h.some' (by rw [← h.len]; omega)
  have h1 := cellsF_at fs k hk
  refine ⟨g, o, e, hc _ _ h1.1, ?_, ?_⟩
  · have := hc _ _ h1.2.1
    rwa [show o + (k * 3 + 1) = o + k * 3 + 1 by omega] at this
  · have := hc _ _ h1.2.2
    rwa [show o + (k * 3 + 2) = o + k * 3 + 2 by omega] at this

set_option maxRecDepth 100000 in
set_option maxHeartbeats 1000000 in
theorem szField_any (f : Fd) (left : Int) (w : World) (h1 : f.n.size ≤ maxLen) (h2 : f.v.size ≤ maxLen) (l0 : 0 ≤ left) (l1 : left ≤ 1048576) :
    Calls Try.prog 13 #[f.val, .int .i64 left] w fun e w' => e = .returned (.int .i64 (if left < (f.n.size : Int) + f.v.size then -1 else left - f.n.size - f.v.size)) ∧ Below w.heap.size w w' := by
  unfold maxLen at h1 h2
  unfold Fd.val
  by_cases c1 : left - (f.n.size : Int) < 0
  · rw [if_pos (by omega)]
    have hd : decide (left - (f.n.size : Int) < 0) = true := by simpa using c1
    go_enter Try.func13, Try.ntmps13
    go_wp2
    go_ret
    exact ⟨rfl, (Below.refl _ _).alloc (Nat.le_refl _) _⟩
  · have hd : decide (left - (f.n.size : Int) < 0) = false := by rw [decide_eq_false_iff_not]; exact c1
    have hn1 : (f.n.size : Int) ≤ left := by omega
    by_cases c2 : left - (f.n.size : Int) - f.v.size < 0
    · rw [if_pos (by omega)]
      have hd2 : decide (left - (f.n.size : Int) - f.v.size < 0) = true := by simpa using c2
      go_enter Try.func13, Try.ntmps13
      go_wp2
      go_ret
      exact ⟨rfl, (Below.refl _ _).alloc (Nat.le_refl _) _⟩
    · rw [if_neg (by omega)]
      have hd2 : decide (left - (f.n.size : Int) - f.v.size < 0) = false := by rw [decide_eq_false_iff_not]; exact c2
      go_enter Try.func13, Try.ntmps13
      go_wp2
      go_ret
      exact ⟨rfl, (Below.refl _ _).alloc (Nat.le_refl _) _⟩

set_option maxRecDepth 100000 in
set_option maxHeartbeats 2000000 in
theorem szFieldS_any (fs : List Fd) (a : Option Addr) (n cap : Nat) (left : Int) (w : World) (hf : FsA w a n cap fs) (l0 : 0 ≤ left) (l1 : left ≤ 1048576) :
    Calls Try.prog 26 #[.slice a n cap, .int .i64 left] w fun e w' => ∃ r : Int, e = .returned (.int .i64 r) ∧ (r = -1 ∨ (0 ≤ r ∧ r ≤ left ∧ (n : Int) ≤ left ∧ fsBd fs)) ∧ Below w.heap.size w w' := by
  have HF : Hid (FsA w a n cap fs) := hf
  have hlen := hf.len
  have hnm := hf.nmax
  unfold maxLen at hnm
  clear hf
  by_cases c1 : left - (n : Int) < 0
  · have hd : decide (left - (n : Int) < 0) = true := by simpa using c1
    go_enter Try.func26, Try.ntmps26
    go_wp2
    go_ret
    exact ⟨-1, rfl, .inl rfl, Below.refl _ _⟩
  · have hd : decide (left - (n : Int) < 0) = false := by rw [decide_eq_false_iff_not]; exact c1
    have hn2 : (n : Int) ≤ 1048576 := by omega
    go_enter Try.func26, Try.ntmps26
    go_wp2
    go_loopw [1, 5] (fun l i wr => ∃ (k : Nat) (r : Int), k ≤ n ∧ i = .int .i64 k ∧ l = .int .i64 r ∧ 0 ≤ r ∧ r ≤ left ∧ fsBd (fs.take k) ∧ Below w.heap.size w wr) (fun _ i _ => n - (intOf i).toNat)
    case atStart => exact ⟨0, left - n, by omega, rfl, rfl, by omega, by omega, (by intro f hf; simp at hf), Below.refl _ _⟩
    case round =>
      obtain ⟨k, r, hk, rfl, rfl, r0, r1, hbd, hbel⟩ := hrel
      have HBD : Hid (fsBd (fs.take k)) := hbd
      clear hbd
      by_cases hlt : k < n
      · have hlt' : (k : Int) < n := by omega
        have hk0 : (0 : Int) ≤ k := by omega
        have hkl : k < fs.length := by omega
        obtain ⟨g, o, rfl, c0, c1', c2⟩ := (HF.out.below hbel).at k hkl
        have hst := HF.out.strs fs[k] (List.getElem_mem hkl)
        have HTK : Hid (fs.take (k + 1) = fs.take k ++ [fs[k]]) := List.take_succ_eq_append_getElem hkl
        obtain ⟨f, hff⟩ : ∃ f, fs[k] = f := ⟨_, rfl⟩
        rw [hff] at c0 c1' c2 hst HTK
        have hsz := fun w => szField_any f r w hst.1 hst.2 r0 (by omega)
        unfold Fd.val at hsz
        clear hff
        by_cases hs : r < (f.n.size : Int) + f.v.size
        · rw [if_pos hs] at hsz
          go_wp2_with (go_at_call 13; refine (hsz _).mono ?_; clear hsz; rintro e w1 ⟨rfl, hb1⟩)
          go_ret
          exact ⟨-1, rfl, .inl rfl, bt' hbel hb1⟩
        · rw [if_neg hs] at hsz
          have hd3 : decide (r - (f.n.size : Int) - f.v.size < 0) = false := by rw [decide_eq_false_iff_not]; omega
          have hnn1 : (0 : Int) ≤ r - (f.n.size : Int) - f.v.size := by omega
          go_wp2_with (go_at_call 13; refine (hsz _).mono ?_; clear hsz; rintro e w1 ⟨rfl, hb1⟩)
          go_roundw
          case rel =>
            refine ⟨k + 1, r - (f.n.size : Int) - f.v.size, by omega, by go_num, rfl, by omega, by omega, ?_, bt' hbel hb1⟩
            rw [HTK.out]
            intro x hx
            rcases List.mem_append.1 hx with hx | hx
            · exact HBD.out x hx
            · simp at hx
              subst hx
              exact ⟨by omega, by omega⟩
          case measure => simp [intOf]; omega
      · have hall : fs.take k = fs := List.take_of_length_le (by omega)
        rw [hall] at HBD
        clear hall
        go_wp2
        go_ret
        exact ⟨r, rfl, .inr ⟨r0, r1, by omega, HBD.out⟩, hbel⟩

set_option maxRecDepth 100000 in
set_option maxHeartbeats 1000000 in
theorem szTable_any (fs : List Fd) (a : Option Addr) (n cap : Nat) (max left : Int) (w : World) (hf : FsA w a n cap fs) (l0 : 0 ≤ left) (l1 : left ≤ 1048576) :
    Calls Try.prog 8 #[.agg #[.slice a n cap, .int .i64 max], .int .i64 left] w fun e w' => ∃ r : Int, e = .returned (.int .i64 r) ∧ (r = -1 ∨ (0 ≤ r ∧ r ≤ left ∧ (n : Int) ≤ left ∧ fsBd fs)) ∧ Below w.heap.size w w' := by
  have hb0 : Below w.heap.size w (w.alloc (.cells #[.slice a n cap, .int .i64 max] 24)) := (Below.refl _ _).alloc (Nat.le_refl _) _
  have hs := szFieldS_any fs a n cap left _ (hf.below hb0) l0 l1
  clear hf
  go_enter Try.func8, Try.ntmps8
  go_wp2_with fail
  refine hs.mono ?_
  rintro e w1 ⟨r, rfl, hr, hb1⟩
  rcases hr with rfl | ⟨r0, r1, r2, r3⟩
  · go_wp2
    go_ret
    exact ⟨-1, rfl, .inl rfl, bt' hb0 hb1⟩
  · have HR3 : Hid (fsBd fs) := r3
    clear r3
    have hd : decide (r < 0) = false := by rw [decide_eq_false_iff_not]; omega
    go_wp2
    go_ret
    exact ⟨r, rfl, .inr ⟨r0, r1, r2, HR3.out⟩, bt' hb0 hb1⟩

set_option maxRecDepth 100000 in
set_option maxHeartbeats 1000000 in
theorem toField_any (f : Fd) (w : World) :
    Calls Try.prog 15 #[f.val] w fun e w' => e = .returned f.val ∧ Below w.heap.size w w' := by
  unfold Fd.val
  have hz : w.heap.size < w.heap.size + 1 := Nat.lt_succ_self _
  have hR : Hid ((((w.alloc (.cells #[.string f.n, .string f.v, .bool f.q] 34)).alloc (.cells #[.string ⟨#[]⟩, .string ⟨#[]⟩, .bool false] 37)).alloc (.cells #[.string f.n, .string f.v, .bool f.q] 37)).heap[w.heap.size + 1]? = some (.cells #[.string ⟨#[]⟩, .string ⟨#[]⟩, .bool false] 37 (0, 0))) := by
    have h := heap_alloc_last (w.alloc (.cells #[.string f.n, .string f.v, .bool f.q] 34)) (.cells #[.string ⟨#[]⟩, .string ⟨#[]⟩, .bool false] 37)
    rw [World.size_alloc] at h
    exact blkT h _
  have hb : Below w.heap.size w (((w.alloc (.cells #[.string f.n, .string f.v, .bool f.q] 34)).alloc (.cells #[.string ⟨#[]⟩, .string ⟨#[]⟩, .bool false] 37)).alloc (.cells #[.string f.n, .string f.v, .bool f.q] 37)) := (((Below.refl _ _).alloc (Nat.le_refl _) _).alloc (by simp) _).alloc (by simp; omega) _
  go_enter Try.func15, Try.ntmps15
  go_wp2_with (refine wpList_store_row rfl 37 _ _ rfl (w.heap.size + 1) #[.string f.n, .string f.v, .bool f.q] rfl rfl 37 _ hR.out infoF3 rfl (by simp [Value.oneCell']) ?_)
  exact bodyPost_ret (results_cell_row rfl _ _ (w.heap.size + 1) 37 #[.string f.n, .string f.v, .bool f.q] (0, 0) _ rfl (setRow_heap _ _ _ _ _ _ hR.out) Try.underlying37 rfl infoF3) rfl ⟨rfl, hb.grown (grown_setRowT _ _ _) hb.size (fun q hq => by injection hq with hq; omega)⟩
end Go.Proofs.Ytafhpcgdlmkbeay
