import Derived.Test.YtbhoafiolalgaaaGreatBQ
import Derived.Test.YtbhoafiolalgaaaGreatSpRA
import Derived.Test.YtbhoafiolalgaaaGreatBC
namespace Go.Proofs.YtbhoafiolalgaaaGreat
open Go.RowKit
set_option linter.unusedVariables false

def restS (s : ByteArray) (u : Int) : ByteArray := s.extract u.toNat s.size
theorem bytesL_rest (s : ByteArray) (u : Int) : bytesL (restS s u) = (bytesL s).drop u.toNat := by
  unfold restS
  rw [bytesL_extract, List.take_of_length_le (by rw [bytesL_length]; exact Nat.le_refl _)]
theorem rest_size (s : ByteArray) (u : Int) : (restS s u).size ≤ s.size := by
  rw [← bytesL_length, bytesL_rest, List.length_drop, bytesL_length]; omega
theorem slice_rest (s : ByteArray) (u : Int) (h0 : 0 ≤ u) (h1 : u ≤ s.size) (W : World) : (Instr.slice 9 (.string s) (some (.int .i64 u)) none none).run Tryz.prog W = .ok (.string (restS s u)) W := by
  have h := run_slice_string_from_if (P := Tryz.prog) W 9 s .i64 u Tryz.underlying9
  rw [h, if_pos ⟨h0, h1⟩]
  rfl
def zFd : Fd := ⟨⟨#[]⟩, ⟨#[]⟩, false⟩
/-- What the model reads of a place, or a name, and a value. -/
def litV (fs : List Fd) (s : ByteArray) (bits : Int) : Fd × Int × Bool :=
  if (rdV s bits).2.2 = false then (zFd, 0, false)
  else if (rdV s bits).1 = 0 then
    if (rdWV (restS s (rdV s bits).2.1)).2.2 = false ∨ (rdWV (restS s (rdV s bits).2.1)).1.size = 0 then (zFd, 0, false)
    else (⟨(rdWV (restS s (rdV s bits).2.1)).1, (rdWV (restS s ((rdV s bits).2.1 + (rdWV (restS s (rdV s bits).2.1)).2.1))).1, false⟩, (rdV s bits).2.1 + (rdWV (restS s (rdV s bits).2.1)).2.1 + (rdWV (restS s ((rdV s bits).2.1 + (rdWV (restS s (rdV s bits).2.1)).2.1))).2.1, (rdWV (restS s ((rdV s bits).2.1 + (rdWV (restS s (rdV s bits).2.1)).2.1))).2.2)
  else if (atV fs (rdV s bits).1).2 = false then (zFd, 0, false)
  else (⟨(atV fs (rdV s bits).1).1.n, (rdWV (restS s (rdV s bits).2.1)).1, false⟩, (rdV s bits).2.1 + (rdWV (restS s (rdV s bits).2.1)).2.1, (rdWV (restS s (rdV s bits).2.1)).2.2)
theorem results_cell_tmp2 {fn : Func} {p q r : Tmp} {ty : TypeId} (h : fn.results = #[.cell p ty, .tmp q, .tmp r]) (tmps : Array Value) (w : World) (g : Nat) (cs : Array Value)
    (hp : tmps.getD p undef = .pointer (some ⟨g, 0, none⟩)) (hl : (loadVar ty ⟨g, 0, none⟩).run Tryz.prog w = .ok (.agg cs) w) :
    (results fn tmps).run Tryz.prog w = .ok (.tuple #[.agg cs, tmps.getD q undef, tmps.getD r undef]) w := by
  have hp' : tmps[p]?.getD undef = .pointer (some ⟨g, 0, none⟩) := by simpa using hp
  simp [results, h, hp', asAddr, hl]
theorem setc_heap {W : World} {B : Nat} {cs : Array Value} {t : TypeId} (o : Nat) (v : Value) (h : W.heap[B]? = some (.cells cs t (0, 0))) : (W.setCell ⟨B, o, none⟩ v).heap[B]? = some (.cells (cs.setIfInBounds o v) t (0, 0)) := by
  obtain ⟨hlt, hk⟩ := Array.getElem?_eq_some_iff.1 h
  show (W.heap.modify B _)[B]? = _
  rw [Array.getElem?_eq_getElem (by rw [Array.size_modify]; exact hlt), Array.getElem_modify_self, hk]
  rfl
theorem set3_heap {W : World} {B : Nat} {a b c : Value} {t : TypeId} (x y z : Value) (h : W.heap[B]? = some (.cells #[a, b, c] t (0, 0))) : (((W.setCell ⟨B, 0, none⟩ x).setCell ⟨B, 1, none⟩ y).setCell ⟨B, 2, none⟩ z).heap[B]? = some (.cells #[x, y, z] t (0, 0)) := setc_heap 2 z (setc_heap 1 y (setc_heap 0 x h))
theorem bel3 {n : Nat} {w W : World} {B : Nat} (h : Below n w W) (hB : n ≤ B) (x y z : Value) : Below n w (((W.setCell ⟨B, 0, none⟩ x).setCell ⟨B, 1, none⟩ y).setCell ⟨B, 2, none⟩ z) :=
  ((h.setCell (p := ⟨B, 0, none⟩) hB x).setCell (p := ⟨B, 1, none⟩) hB y).setCell (p := ⟨B, 2, none⟩) hB z
theorem isEmpty_true {s : ByteArray} (h : s.size = 0) : s.toList.isEmpty = true := by rw [size_zero h]; decide +kernel
theorem setc_other {W : World} {B C : Nat} {x : Obj} (o : Nat) (v : Value) (h : W.heap[C]? = some x) (hne : C ≠ B) : (W.setCell ⟨B, o, none⟩ v).heap[C]? = some x := by
  rw [Below.heap_setCell _ _ _ _ (by show C ≠ B; exact hne)]; exact h
set_option maxRecDepth 100000 in
set_option maxHeartbeats 4000000 in
theorem l11Lit_any (fs : List Fd) (a : Option Addr) (n cap : Nat) (max : Int) (s : ByteArray) (bits : Int) (w : World) (hf : Fs w a n cap fs) (hn : n ≤ 1000) (hs : s.size ≤ 1000) (b0 : 3 ≤ bits) (b1 : bits ≤ 7) :
    Calls Tryz.prog 59 #[.agg #[.slice a n cap, .int .i64 max], .string s, .int .i64 bits] w fun e w' => e = .returned (.tuple #[(litV fs s bits).1.val, .int .i64 (litV fs s bits).2.1, .bool (litV fs s bits).2.2]) ∧ Below w.heap.size w w' := by
  have hrd := fun w => l1Read_any s bits w (by unfold maxLen; omega) b0 b1
  have hat := fun (w' : World) (at' : Int) (h : Fs w' a n cap fs) => l3At_any fs a n cap max at' w' h (by omega)
  have hP : 8 ≤ pw bits ∧ pw bits ≤ 128 := pw_bd bits b0 b1
  have hrd2 : rdV s bits = rd (pw bits) (bytesL s) := by unfold rdV; rw [if_pos ⟨b0, b1⟩]
  have hb2 : Below w.heap.size w ((w.alloc (.cells #[.slice a n cap, .int .i64 max] 25)).alloc (.cells #[.string ⟨#[]⟩, .string ⟨#[]⟩, .bool false] 52)) := ((Below.refl _ _).alloc (Nat.le_refl _) _).alloc (by simp) _
  have hb3 : Below w.heap.size w (((w.alloc (.cells #[.slice a n cap, .int .i64 max] 25)).alloc (.cells #[.string ⟨#[]⟩, .string ⟨#[]⟩, .bool false] 52)).alloc (.cells #[.string ⟨#[]⟩, .string ⟨#[]⟩, .bool false] 52)) := hb2.alloc (by simp; omega) _
  have hR3 : Hid ((((w.alloc (.cells #[.slice a n cap, .int .i64 max] 25)).alloc (.cells #[.string ⟨#[]⟩, .string ⟨#[]⟩, .bool false] 52)).alloc (.cells #[.string ⟨#[]⟩, .string ⟨#[]⟩, .bool false] 52)).heap[w.heap.size + 1]? = some (.cells #[.string ⟨#[]⟩, .string ⟨#[]⟩, .bool false] 52 (0, 0))) := by
    have h := heap_alloc_last (w.alloc (.cells #[.slice a n cap, .int .i64 max] 25)) (.cells #[.string ⟨#[]⟩, .string ⟨#[]⟩, .bool false] 52)
    rw [World.size_alloc] at h
    exact blkT h _
  have hF3 : Hid ((((w.alloc (.cells #[.slice a n cap, .int .i64 max] 25)).alloc (.cells #[.string ⟨#[]⟩, .string ⟨#[]⟩, .bool false] 52)).alloc (.cells #[.string ⟨#[]⟩, .string ⟨#[]⟩, .bool false] 52)).heap[w.heap.size + 1 + 1]? = some (.cells #[.string ⟨#[]⟩, .string ⟨#[]⟩, .bool false] 52 (0, 0))) := by
    have h := heap_alloc_last ((w.alloc (.cells #[.slice a n cap, .int .i64 max] 25)).alloc (.cells #[.string ⟨#[]⟩, .string ⟨#[]⟩, .bool false] 52)) (.cells #[.string ⟨#[]⟩, .string ⟨#[]⟩, .bool false] 52)
    rw [World.size_alloc, World.size_alloc] at h
    exact h
  unfold tupV at hrd
  obtain ⟨⟨p, u, ok⟩, hr⟩ : ∃ r, rdV s bits = r := ⟨_, rfl⟩
  unfold litV
  rw [hr] at hrd ⊢
  dsimp only at hrd ⊢
  have HF : Hid (Fs w a n cap fs) := hf
  have hlen := hf.len
  clear hf
  cases ok with
  | false =>
    rw [if_pos rfl]
    unfold zFd Fd.val
    dsimp only
    go_enter Tryz.func59, Tryz.ntmps59
    go_wp2_with (go_at_call 57; refine (hrd _).mono ?_; clear hrd; rintro e w' ⟨rfl, rfl⟩)
    refine bodyPost_ret (results_cell_tmp2 rfl _ _ (w.heap.size + 1) #[.string ⟨#[]⟩, .string ⟨#[]⟩, .bool false] rfl (load_fld (by
      have h := heap_alloc_last (w.alloc (.cells #[.slice a n cap, .int .i64 max] 25)) (.cells #[.string ⟨#[]⟩, .string ⟨#[]⟩, .bool false] 52)
      rw [World.size_alloc] at h
      exact h))) rfl ⟨rfl, hb2⟩
  | true =>
    rw [if_neg (by decide)]
    rw [hr] at hrd2
    obtain ⟨p0, p1, u0, u1, _⟩ := rd_more (bytesL_bd s) hP.1 hP.2 hrd2.symm
    rw [bytesL_length] at u1
    have hsl := fun W => slice_rest s u (by omega) u1 W
    have hw1 := fun w => l2Read_any (restS s u) w (by have := rest_size s u; unfold maxLen; omega)
    have hz1 := rest_size s u
    have hrb := bytesL_rest s u
    clear hr hrd2 hP
    by_cases hp : p = 0
    · subst hp
      rw [if_pos rfl]
      obtain ⟨⟨nm, m, fine⟩, hx⟩ : ∃ r, rdWV (restS s u) = r := ⟨_, rfl⟩
      rw [hx] at hw1 ⊢
      dsimp only at hw1 ⊢
      cases fine with
      | false =>
        rw [if_pos (.inl rfl)]
        unfold zFd Fd.val
        dsimp only
        clear hx hrb hat
        go_enter Tryz.func59, Tryz.ntmps59
        go_wp2_with (first | (go_at_call 57; refine (hrd _).mono ?_; clear hrd; rintro e w' ⟨rfl, rfl⟩) | (go_at_call 80; refine (hw1 _).mono ?_; clear hw1; rintro e w1 ⟨rfl, hb1⟩; have hR1 := blkH hb1 hR3.out; obtain ⟨r0, r1, r2⟩ := row3c hR1; have f0 := frz 0 hR1; have f1 := frz 1 hR1; have f2 := frz 2 hR1; have hB1 := bt' hb3 hb1))
        refine bodyPost_ret (results_cell_tmp2 rfl _ _ (w.heap.size + 1) #[.string ⟨#[]⟩, .string ⟨#[]⟩, .bool false] rfl (load_fld (set3_heap _ _ _ hR1))) rfl ⟨rfl, bel3 hB1 (by omega) _ _ _⟩
      | true =>
        obtain ⟨wnm, m0, m1, _⟩ := rdWV_strict hx
        by_cases hnz : nm.size = 0
        · rw [if_pos (.inr hnz)]
          have hem := isEmpty_true hnz
          unfold zFd Fd.val
          dsimp only
          clear hx hrb hat
          go_enter Tryz.func59, Tryz.ntmps59
          go_wp2_with (first | (go_at_call 57; refine (hrd _).mono ?_; clear hrd; rintro e w' ⟨rfl, rfl⟩) | (go_at_call 80; refine (hw1 _).mono ?_; clear hw1; rintro e w1 ⟨rfl, hb1⟩; have hR1 := blkH hb1 hR3.out; obtain ⟨r0, r1, r2⟩ := row3c hR1; have f0 := frz 0 hR1; have f1 := frz 1 hR1; have f2 := frz 2 hR1; have hB1 := bt' hb3 hb1))
          refine bodyPost_ret (results_cell_tmp2 rfl _ _ (w.heap.size + 1) #[.string ⟨#[]⟩, .string ⟨#[]⟩, .bool false] rfl (load_fld (set3_heap _ _ _ hR1))) rfl ⟨rfl, bel3 hB1 (by omega) _ _ _⟩
        · rw [if_neg (by simp [hnz])]
          have hem := isEmpty_false (s := nm) (by omega)
          have hum : u + m ≤ s.size := by
            have : ((restS s u).size : Int) = s.size - u := by
              rw [← bytesL_length, hrb, List.length_drop, bytesL_length]
              omega
            omega
          have hsl2 := fun W => slice_rest s (u + m) (by omega) hum W
          have hw2 := fun w => l2Read_any (restS s (u + m)) w (by have := rest_size s (u + m); unfold maxLen; omega)
          have hz2 := rest_size s (u + m)
          have hvb := rdWV_two (restS s (u + m))
          obtain ⟨⟨vl, k, ok2⟩, hy⟩ : ∃ r, rdWV (restS s (u + m)) = r := ⟨_, rfl⟩
          rw [hy] at hw2 hvb ⊢
          have hk : 0 ≤ k ∧ k ≤ 1000 := by
            rcases hvb with e | ⟨x, q, e⟩
            · injection e with _ e; injection e with e _; omega
            · injection e with _ e; injection e with e e2; subst e e2
              have := rdWV_strict hy
              omega
          dsimp only at hw2 ⊢
          unfold Fd.val
          dsimp only
          obtain ⟨rst, hrst⟩ : ∃ r, restS s u = r := ⟨_, rfl⟩
          obtain ⟨rst2, hrst2⟩ : ∃ r, restS s (u + m) = r := ⟨_, rfl⟩
          rw [hrst] at hsl hw1 hz1
          rw [hrst2] at hsl2 hw2 hz2
          clear hx hrb hat hy hvb hrst hrst2 wnm
          go_enter Tryz.func59, Tryz.ntmps59
          go_wp2_with (first | (go_at_call 57; refine (hrd _).mono ?_; clear hrd; rintro e w' ⟨rfl, rfl⟩) | (go_at_call 80; refine (hw1 _).mono ?_; clear hw1; rintro e w1 ⟨rfl, hb1⟩; have hR1 := blkH hb1 hR3.out; have hF1 := blkH hb1 hF3.out; obtain ⟨r0, r1, r2⟩ := row3c hF1; have f0 := frz 0 hF1; have f1 := frz 1 hF1; have f2 := frz 2 hF1; have hB1 := bt' hb3 hb1) | (go_at_call 80; refine (hw2 _).mono ?_; clear hw2; rintro e w2 ⟨rfl, hb2'⟩; have hR2 := blkH hb2' (setc_other 0 (.string nm) hR1 (by omega)); have hF2 := blkH hb2' (setc_heap 0 (.string nm) hF1); obtain ⟨t0, t1, t2⟩ := row3c hF2; obtain ⟨v0, v1, v2⟩ := row3c hR2; have g0 := frz 0 hF2; have g1 := frz 1 hF2; have g2 := frz 2 hF2; have d0 := frz 0 hR2; have d1 := frz 1 hR2; have d2 := frz 2 hR2; have hB2 := bt' (hB1.setCell (p := ⟨w.heap.size + 1 + 1, 0, none⟩) (by show w.heap.size ≤ w.heap.size + 1 + 1; omega) (.string nm)) hb2'))
          refine bodyPost_ret (results_cell_tmp2 rfl _ _ (w.heap.size + 1) #[.string nm, .string vl, .bool false] rfl (load_fld (set3_heap _ _ _ (setc_other 1 (.string vl) hR2 (by omega))))) rfl ⟨rfl, bel3 (hB2.setCell (p := ⟨w.heap.size + 1 + 1, 1, none⟩) (by show w.heap.size ≤ w.heap.size + 1 + 1; omega) (.string vl)) (by omega) _ _ _⟩
    · rw [if_neg hp]
      have hatw := fun (w' : World) (h : Fs w' a n cap fs) => hat w' p h
      obtain ⟨⟨x, okx⟩, hx⟩ : ∃ r, atV fs p = r := ⟨_, rfl⟩
      rw [hx] at hatw ⊢
      dsimp only at hatw ⊢
      unfold Fd.val at hatw
      clear hat hx
      cases okx with
      | false =>
        rw [if_pos rfl]
        unfold zFd Fd.val
        dsimp only
        clear hw1 hsl hrb
        go_enter Tryz.func59, Tryz.ntmps59
        go_wp2_with (first | (go_at_call 57; refine (hrd _).mono ?_; clear hrd; rintro e w' ⟨rfl, rfl⟩) | (go_at_call 58; refine (hatw _ (HF.out.below hb3)).mono ?_; clear hatw; rintro e w1 ⟨rfl, hb1⟩; have hR1 := blkT (blkH hb1 hR3.out) (.cells #[.string x.n, .string x.v, .bool x.q] 52); obtain ⟨r0, r1, r2⟩ := row3c hR1; have f0 := frz 0 hR1; have f1 := frz 1 hR1; have f2 := frz 2 hR1; have hB1 := (bt' hb3 hb1).alloc (bt' hb3 hb1).size (.cells #[.string x.n, .string x.v, .bool x.q] 52)))
        refine bodyPost_ret (results_cell_tmp2 rfl _ _ (w.heap.size + 1) #[.string ⟨#[]⟩, .string ⟨#[]⟩, .bool false] rfl (load_fld (set3_heap _ _ _ hR1))) rfl ⟨rfl, bel3 hB1 (by omega) _ _ _⟩
      | true =>
        rw [if_neg (by decide)]
        have hvb := rdWV_two (restS s u)
        obtain ⟨⟨vl, k, ok2⟩, hy⟩ : ∃ r, rdWV (restS s u) = r := ⟨_, rfl⟩
        rw [hy] at hw1 hvb ⊢
        have hk : 0 ≤ k ∧ k ≤ 1000 := by
          rcases hvb with e | ⟨x, q, e⟩
          · injection e with _ e; injection e with e _; omega
          · injection e with _ e; injection e with e e2; subst e e2
            have := rdWV_strict hy
            omega
        dsimp only at hw1 ⊢
        unfold Fd.val
        dsimp only
        obtain ⟨rst, hrst⟩ : ∃ r, restS s u = r := ⟨_, rfl⟩
        rw [hrst] at hsl hw1 hz1
        clear hrb hy hvb hrst
        go_enter Tryz.func59, Tryz.ntmps59
        go_wp2_with (first | (go_at_call 57; refine (hrd _).mono ?_; clear hrd; rintro e w' ⟨rfl, rfl⟩) | (go_at_call 58; refine (hatw _ (HF.out.below hb3)).mono ?_; clear hatw; rintro e w1 ⟨rfl, hb1⟩; have hR1 := blkT (blkH hb1 hR3.out) (.cells #[.string x.n, .string x.v, .bool x.q] 52); have hF1 := blkT (blkH hb1 hF3.out) (.cells #[.string x.n, .string x.v, .bool x.q] 52); obtain ⟨r0, r1, r2⟩ := row3c hF1; have f0 := frz 0 hF1; have f1 := frz 1 hF1; have f2 := frz 2 hF1; have hB1 := (bt' hb3 hb1).alloc (bt' hb3 hb1).size (.cells #[.string x.n, .string x.v, .bool x.q] 52)) | (go_at_call 80; refine (hw1 _).mono ?_; clear hw1; rintro e w2 ⟨rfl, hb2'⟩; have hR2 := blkH hb2' (setc_other 0 (.string x.n) hR1 (by omega)); have hF2 := blkH hb2' (setc_heap 0 (.string x.n) hF1); obtain ⟨t0, t1, t2⟩ := row3c hF2; obtain ⟨v0, v1, v2⟩ := row3c hR2; have g0 := frz 0 hF2; have g1 := frz 1 hF2; have g2 := frz 2 hF2; have d0 := frz 0 hR2; have d1 := frz 1 hR2; have d2 := frz 2 hR2; have hB2 := bt' (hB1.setCell (p := ⟨w.heap.size + 1 + 1, 0, none⟩) (by show w.heap.size ≤ w.heap.size + 1 + 1; omega) (.string x.n)) hb2'))
        refine bodyPost_ret (results_cell_tmp2 rfl _ _ (w.heap.size + 1) #[.string x.n, .string vl, .bool false] rfl (load_fld (set3_heap _ _ _ (setc_other 1 (.string vl) hR2 (by omega))))) rfl ⟨rfl, bel3 (hB2.setCell (p := ⟨w.heap.size + 1 + 1, 1, none⟩) (by show w.heap.size ≤ w.heap.size + 1 + 1; omega) (.string vl)) (by omega) _ _ _⟩
end Go.Proofs.YtbhoafiolalgaaaGreat
