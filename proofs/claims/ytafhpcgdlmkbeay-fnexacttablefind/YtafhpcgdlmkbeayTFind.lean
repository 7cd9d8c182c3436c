import Derived.Test.YtafhpcgdlmkbeayTAt
namespace Go.Proofs.Ytafhpcgdlmkbeay
open Go.RowKit
set_option linter.unusedVariables false

/-- The first place, counted from 1 behind k, of a field with this name; 0 if there is none. -/
def nmP (n : ByteArray) : List Fd → Nat → Nat
  | [], _ => 0
  | x :: t, k => if x.n = n then k + 1 else nmP n t (k + 1)
/-- The first place of all of a field. -/
def flP (f : Fd) : List Fd → Nat → Nat
  | [], _ => 0
  | x :: t, k => if x.n = f.n ∧ x.v = f.v then k + 1 else flP f t (k + 1)
/-- What l3Find answers. -/
def findV (fs : List Fd) (f : Fd) : Nat × Bool := if flP f (fixedL ++ fs) 0 = 0 then (nmP f.n (fixedL ++ fs) 0, false) else (flP f (fixedL ++ fs) 0, true)
theorem nmP_le (n : ByteArray) (l : List Fd) (k : Nat) : nmP n l k ≤ k + l.length := by
  induction l generalizing k with
  | nil => simp [nmP]
  | cons x t ih => unfold nmP; have := ih (k + 1); split <;> simp only [List.length_cons] <;> omega
theorem nmP_at {n : ByteArray} {l : List Fd} {k : Nat} (h : k < l.length) : nmP n (l.drop k) k = if l[k].n = n then k + 1 else nmP n (l.drop (k + 1)) (k + 1) := by
  rw [List.drop_eq_getElem_cons h]; rfl
theorem flP_at {f : Fd} {l : List Fd} {k : Nat} (h : k < l.length) : flP f (l.drop k) k = if l[k].n = f.n ∧ l[k].v = f.v then k + 1 else flP f (l.drop (k + 1)) (k + 1) := by
  rw [List.drop_eq_getElem_cons h]; rfl
theorem keep_fld {w1 w2 : World} {B : Nat} {x y z : Value} (hb : Below w1.heap.size w1 w2) (h0 : w1.cell? ⟨B, 0, none⟩ = some x) (h1 : w1.cell? ⟨B, 1, none⟩ = some y) : w2.cell? ⟨B, 0, none⟩ = some x ∧ w2.cell? ⟨B, 1, none⟩ = some y := five_two (w := w1) hb h0 h1

set_option maxRecDepth 100000 in
set_option maxHeartbeats 1000000 in
theorem l3Find_any (fs : List Fd) (a : Option Addr) (n cap : Nat) (max : Int) (f : Fd) (w : World) (hf : Fs w a n cap fs) (hn : n ≤ 1048576) :
    Calls Try.prog 45 #[.agg #[.slice a n cap, .int .i64 max], f.val] w fun e w' => e = .returned (.tuple #[.int .i64 (findV fs f).1, .bool (findV fs f).2]) ∧ Below w.heap.size w w' := by
  have hall := fun (w' : World) (h : Fs w' a n cap fs) => l3All_any fs a n cap max w' h hn
  have HF : Hid (Fs w a n cap fs) := hf
  have hlen := hf.len
  clear hf
  have hb2 : Below w.heap.size w ((w.alloc (.cells #[.slice a n cap, .int .i64 max] 29)).alloc (.cells #[.string f.n, .string f.v, .bool f.q] 37)) := ((Below.refl _ _).alloc (Nat.le_refl _) _).alloc (by simp) _
  have hR : Hid (((w.alloc (.cells #[.slice a n cap, .int .i64 max] 29)).alloc (.cells #[.string f.n, .string f.v, .bool f.q] 37)).heap[w.heap.size + 1]? = some (.cells #[.string f.n, .string f.v, .bool f.q] 37 (0, 0))) := by
    have h := heap_alloc_last (w.alloc (.cells #[.slice a n cap, .int .i64 max] 29)) (.cells #[.string f.n, .string f.v, .bool f.q] 37)
    rw [World.size_alloc] at h
    exact h
  have hv : findV fs f = if flP f (fixedL ++ fs) 0 = 0 then (nmP f.n (fixedL ++ fs) 0, false) else (flP f (fixedL ++ fs) 0, true) := rfl
  obtain ⟨L, hL⟩ : ∃ L, fixedL ++ fs = L := ⟨_, rfl⟩
  have hLl : L.length = 6 + n := by rw [← hL, List.length_append, hlen]; rfl
  rw [hL] at hall hv
  have HV : Hid (findV fs f = if flP f L 0 = 0 then (nmP f.n L 0, false) else (flP f L 0, true)) := hv
  obtain ⟨R, hR'⟩ : ∃ R, findV fs f = R := ⟨_, rfl⟩
  rw [hR'] at HV ⊢
  clear hv hL hR'
  unfold Fd.val
  go_enter Try.func45, Try.ntmps45
  go_wp2_with (go_at_call 57; refine (hall _ (HF.out.below hb2)).mono ?_; clear hall; rintro e w1 ⟨a', c', rfl, hown1, hb1⟩)
  have hR1 := (hb1.block _ (Array.getElem?_eq_some_iff.1 hR.out).1).trans hR.out
  have r0 := cell_of_row _ _ 0 _ _ _ hR1
  have r1 := cell_of_row _ _ 1 _ _ _ hR1
  have hbw : Below w.heap.size w w1 := hb2.trans (hb1.mono hb2.size)
  have hFs1 := own_Fs hown1
  obtain ⟨g, o, rfl⟩ := hFs1.some' (by omega)
  have HFS : Hid (Fs w1 (some ⟨g, o, none⟩) (6 + n) c' L) := hFs1
  clear hFs1 hown1 hb2 hR hR1 HF
  go_loopw [7, 8] (fun s i wr => ∃ k : Nat, k ≤ 6 + n ∧ i = .int .i64 ((k : Int) - 1) ∧ s = .int .i64 (nmP f.n (L.drop k) k : Nat) ∧ Below w1.heap.size w1 wr) (fun _ i _ => (intOf i + 1).toNat)
  case atStart => exact ⟨6 + n, by omega, by go_num, by rw [List.drop_of_length_le (by omega)]; rfl, Below.refl _ _⟩
  case round =>
    obtain ⟨k, hk, rfl, rfl, hbel⟩ := hrel
    obtain ⟨x0, x1⟩ := five_two (w := w1) hbel r0 r1
    by_cases hlt : 0 < k
    · obtain ⟨j, rfl⟩ : ∃ j, k = j + 1 := ⟨k - 1, by omega⟩
      have hjl : j < L.length := by omega
      obtain ⟨c0, c1, c2⟩ := (HFS.out.below hbel).at j hjl
      have HN : Hid (nmP f.n (L.drop j) j = if L[j].n = f.n then j + 1 else nmP f.n (L.drop (j + 1)) (j + 1)) := nmP_at hjl
      obtain ⟨x, hx⟩ : ∃ x, L[j] = x := ⟨_, rfl⟩
      rw [hx] at c0 c1 c2 HN
      clear hx
      rw [show ((j + 1 : Nat) : Int) - 1 = (j : Int) by omega]
      have hj0 : (0 : Int) ≤ j := by omega
      have hj1 : (j : Int) < ((6 + n : Nat) : Int) := by omega
      by_cases he : x.n = f.n
      · have hd := eqT he
        go_wp2
        go_quiet (fail)
        go_wp2
        go_roundw
        case rel => exact ⟨j, by omega, by go_num, by rw [HN.out, if_pos he]; go_num, bdrewT hbel _⟩
        case measure => simp [intOf]
      · have hd := neF he
        go_wp2
        go_quiet (fail)
        go_wp2
        go_roundw
        case rel => exact ⟨j, by omega, by go_num, by rw [HN.out, if_neg he], bdrewT hbel _⟩
        case measure => simp [intOf]
    · obtain rfl : k = 0 := by omega
      rw [List.drop_zero]
      have HNM : Hid (nmP f.n L 0 ≤ 6 + n) := by have := nmP_le f.n L 0; show _ ≤ _; omega
      obtain ⟨m, hm⟩ : ∃ m, nmP f.n L 0 = m := ⟨_, rfl⟩
      rw [hm] at HV HNM ⊢
      clear hm
      go_wp2
      clear x0 x1
      have HB : Hid (Below w1.heap.size w1 wr) := hbel
      clear hbel
      go_loopw [9] (fun i wq => ∃ k : Nat, k ≤ 6 + n ∧ i = .int .i64 k ∧ flP f L 0 = flP f (L.drop k) k ∧ Below w1.heap.size w1 wq) (fun i _ => 6 + n - (intOf i).toNat)
      case atStart => exact ⟨0, by omega, rfl, by rw [List.drop_zero], HB.out⟩
      case round =>
        obtain ⟨k, hk, rfl, hfl, hbel⟩ := hrel
        have HFL : Hid (flP f L 0 = flP f (L.drop k) k) := hfl
        clear hfl
        obtain ⟨x0, x1⟩ := five_two (w := w1) hbel r0 r1
        by_cases hlt : k < 6 + n
        · have hkl : k < L.length := by omega
          obtain ⟨c0, c1, c2⟩ := (HFS.out.below hbel).at k hkl
          have HN : Hid (flP f (L.drop k) k = if L[k].n = f.n ∧ L[k].v = f.v then k + 1 else flP f (L.drop (k + 1)) (k + 1)) := flP_at hkl
          obtain ⟨x, hx⟩ : ∃ x, L[k] = x := ⟨_, rfl⟩
          rw [hx] at c0 c1 c2 HN
          clear hx
          have hk0 : (0 : Int) ≤ k := by omega
          have hk1 : (k : Int) < ((6 + n : Nat) : Int) := by omega
          by_cases he : x.n = f.n
          · have hd := eqT he
            by_cases he2 : x.v = f.v
            · have hd2 := eqT he2
              have HR : Hid (R = (k + 1, true)) := by
                show R = (k + 1, true)
                have h1 : flP f L 0 = k + 1 := by rw [HFL.out, HN.out, if_pos ⟨he, he2⟩]
                rw [HV.out, if_neg (by omega), h1]
              go_wp2
              go_quiet (fail)
              go_wp2
              go_ret2
              exact ⟨by rw [HR.out]; go_num, hbw.trans ((bdrewT hbel _).mono hbw.size)⟩
            · have hd2 := neF he2
              go_wp2
              go_quiet (fail)
              go_wp2
              go_roundw
              case rel => exact ⟨k + 1, by omega, by go_num, by rw [HFL.out, HN.out, if_neg (fun h => he2 h.2)], bdrewT hbel _⟩
              case measure => simp [intOf]; omega
          · have hd := neF he
            go_wp2
            go_quiet (fail)
            go_wp2
            go_roundw
            case rel => exact ⟨k + 1, by omega, by go_num, by rw [HFL.out, HN.out, if_neg (fun h => he h.1)], bdrewT hbel _⟩
            case measure => simp [intOf]; omega
        · have HR : Hid (R = (m, false)) := by
            show R = (m, false)
            have h1 : flP f L 0 = 0 := by rw [HFL.out, List.drop_of_length_le (by omega)]; rfl
            rw [HV.out, if_pos h1]
          go_wp2
          go_ret2
          exact ⟨by rw [HR.out]; rfl, hbw.trans (hbel.mono hbw.size)⟩

/-- What TableFind answers. -/
def tabFind (fs : List Fd) (max : Int) (f : Fd) : Nat × Bool := if tOk fs max && fOk f then findV fs f else (0, false)
set_option maxRecDepth 100000 in
set_option maxHeartbeats 1000000 in
theorem specTableFind (fs : List Fd) (a : Option Addr) (n cap : Nat) (max : Int) (f : Fd) (w : World) (hf : Fs w a n cap fs) (hbd : fsBd fs) (hn : n ≤ 1048576) (h1 : f.n.size ≤ 1048576) (h2 : f.v.size ≤ 1048576) :
    Calls Try.prog 24 #[.agg #[.slice a n cap, .int .i64 max], f.val] w fun e w' => e = .returned (.tuple #[.int .i64 (tabFind fs max f).1, .bool (tabFind fs max f).2]) ∧ Below w.heap.size w w' := by
  have hok := fun (w' : World) (h : Fs w' a n cap fs) => specTableOk fs a n cap max w' h hbd hn
  have hfo := fun (w' : World) => specFieldOk f w' h1 h2
  have hfi := fun (w' : World) (h : Fs w' a n cap fs) => l3Find_any fs a n cap max f w' h hn
  have HF : Hid (Fs w a n cap fs) := hf
  clear hf hbd
  have hb2 : Below w.heap.size w ((w.alloc (.cells #[.slice a n cap, .int .i64 max] 29)).alloc (.cells #[.string f.n, .string f.v, .bool f.q] 37)) := ((Below.refl _ _).alloc (Nat.le_refl _) _).alloc (by simp) _
  have hT : Hid (((w.alloc (.cells #[.slice a n cap, .int .i64 max] 29)).alloc (.cells #[.string f.n, .string f.v, .bool f.q] 37)).heap[w.heap.size]? = some (.cells #[.slice a n cap, .int .i64 max] 29 (0, 0))) := blkT (heap_alloc_last w _) _
  have hR : Hid (((w.alloc (.cells #[.slice a n cap, .int .i64 max] 29)).alloc (.cells #[.string f.n, .string f.v, .bool f.q] 37)).heap[w.heap.size + 1]? = some (.cells #[.string f.n, .string f.v, .bool f.q] 37 (0, 0))) := by
    have h := heap_alloc_last (w.alloc (.cells #[.slice a n cap, .int .i64 max] 29)) (.cells #[.string f.n, .string f.v, .bool f.q] 37)
    rw [World.size_alloc] at h
    exact h
  cases ht : tOk fs max with
  | false =>
    rw [ht] at hok
    have hv : tabFind fs max f = (0, false) := by unfold tabFind; rw [ht]; rfl
    rw [hv]
    unfold Fd.val
    clear ht hv hfo hfi
    go_enter Try.func24, Try.ntmps24
    go_wp2_with (go_at_call 9; refine (hok _ (HF.out.below hb2)).mono ?_; clear hok; rintro e w1 ⟨rfl, hb1⟩)
    go_ret2
    exact ⟨rfl, hb2.trans (hb1.mono hb2.size)⟩
  | true =>
    rw [ht] at hok
    cases hfk : fOk f with
    | false =>
      rw [hfk] at hfo
      have hv : tabFind fs max f = (0, false) := by unfold tabFind; rw [ht, hfk]; rfl
      rw [hv]
      unfold Fd.val at hfo ⊢
      clear ht hv hfi hfk
      go_enter Try.func24, Try.ntmps24
      go_wp2_with (first | (go_at_call 9; refine (hok _ (HF.out.below hb2)).mono ?_; clear hok; rintro e w1 ⟨rfl, hb1⟩; have hR1 := (hb1.block _ (Array.getElem?_eq_some_iff.1 hR.out).1).trans hR.out; have r0 := cell_of_row _ _ 0 _ _ _ hR1; have r1 := cell_of_row _ _ 1 _ _ _ hR1; have r2 := cell_of_row _ _ 2 _ _ _ hR1; have hbw1 := hb2.trans (hb1.mono hb2.size)) | (go_at_call 27; refine (hfo _).mono ?_; clear hfo; rintro e w2 ⟨rfl, hb3⟩))
      go_ret2
      exact ⟨rfl, hbw1.trans (hb3.mono hbw1.size)⟩
    | true =>
      rw [hfk] at hfo
      have hv : tabFind fs max f = findV fs f := by unfold tabFind; rw [ht, hfk]; rfl
      rw [hv]
      obtain ⟨⟨x, b⟩, hx⟩ : ∃ r, findV fs f = r := ⟨_, rfl⟩
      rw [hx] at hfi ⊢
      unfold Fd.val at hfo hfi ⊢
      clear ht hv hfk hx
      go_enter Try.func24, Try.ntmps24
      go_wp2_with (first | (go_at_call 9; refine (hok _ (HF.out.below hb2)).mono ?_; clear hok; rintro e w1 ⟨rfl, hb1⟩; have hR1 := (hb1.block _ (Array.getElem?_eq_some_iff.1 hR.out).1).trans hR.out; have hT1 := (hb1.block _ (Array.getElem?_eq_some_iff.1 hT.out).1).trans hT.out; have r0 := cell_of_row _ _ 0 _ _ _ hR1; have r1 := cell_of_row _ _ 1 _ _ _ hR1; have r2 := cell_of_row _ _ 2 _ _ _ hR1; have hbw1 := hb2.trans (hb1.mono hb2.size)) | (go_at_call 27; refine (hfo _).mono ?_; clear hfo; rintro e w2 ⟨rfl, hb3⟩; have hR2 := (hb3.block _ (Array.getElem?_eq_some_iff.1 hR1).1).trans hR1; have hT2 := (hb3.block _ (Array.getElem?_eq_some_iff.1 hT1).1).trans hT1; have s0 := cell_of_row _ _ 0 _ _ _ hR2; have s1 := cell_of_row _ _ 1 _ _ _ hR2; have s2 := cell_of_row _ _ 2 _ _ _ hR2; have t0 := cell_of_row _ _ 0 _ _ _ hT2; have t1 := cell_of_row _ _ 1 _ _ _ hT2; have hbw2 := hbw1.trans (hb3.mono hbw1.size)) | (go_at_call 45; refine (hfi _ (HF.out.below hbw2)).mono ?_; clear hfi; rintro e w4 ⟨rfl, hb4⟩))
      go_ret2
      exact ⟨rfl, hbw2.trans (hb4.mono hbw2.size)⟩
end Go.Proofs.Ytafhpcgdlmkbeay
