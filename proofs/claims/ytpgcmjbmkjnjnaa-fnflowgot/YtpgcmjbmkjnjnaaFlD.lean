import Derived.Test.YtpgcmjbmkjnjnaaFlS
import Derived.Test.YtpgcmjbmkjnjnaaBR
import Derived.Deep.DeepCutAuto
namespace Go.Proofs.Ytpgcmjbmkjnjnaa
open Go.RowKit
set_option linter.unusedVariables false

theorem St2.belW {w w1 w2 : World} {b N B : Nat} (hb : Below B w w1) (h : St2 w1 w2 b N) (hB : B ≤ b) (hs : B ≤ w1.heap.size) : Below B w w2 :=
  hb.grown h.kept hs (fun q hq => by injection hq with hq; omega)
theorem open_st2W (a : Option Addr) (len cap : Nat) (zs : List Int) (w : World) (hr : Row w a len cap zs) :
    Calls Try.prog 31 #[.slice a len cap] w fun e w' => e = .returned (.pointer (some ⟨w.heap.size, 0, none⟩)) ∧ St2 w' w' w.heap.size 0 ∧ Below w.heap.size w w' ∧ w'.heap.size = w.heap.size + 1 := by
  refine (l6Open_any a len cap zs w hr).mono ?_
  rintro e w' ⟨rfl, hd, hb, hs⟩
  exact ⟨rfl, St2.start hd (by omega), hb, hs⟩
theorem blkW {W : World} {B : Nat} {o : Obj} (h : W.heap[B]? = some o) (o' : Obj) : (W.alloc o').heap[B]? = some o := blkF ((Below.refl _ _).alloc (Nat.le_refl _) _) h
/-- What a drawn flow is like. -/
def FwD (f : Fw) : Prop := -1 ≤ f.s ∧ f.s ≤ 32 ∧ -10 ≤ f.r ∧ f.r ≤ 40

set_option maxRecDepth 100000 in
set_option maxHeartbeats 2000000 in
theorem l71Flow_any (b N : Nat) (w0 w : World) (hst : St2 w0 w b N) (hN : N ≤ 500000) :
    Calls Try.prog 32 #[.pointer (some ⟨b, 0, none⟩)] w fun e w' => ∃ f : Fw, e = .returned f.val ∧ FwD f ∧ 0 ≤ f.r ∧ St2 w0 w' b (N + 10) := by
  have hA0 : St2 w0 (w.alloc (.cells #[.int .i64 0, .int .i64 0] 24)) b N := hst.alloc _
  have hR0 : (w.alloc (.cells #[.int .i64 0, .int .i64 0] 24)).heap[w.heap.size]? = some (.cells #[.int .i64 0, .int .i64 0] 24 (0, 0)) := heap_alloc_last w _
  have hbw := hst.lt
  have hw0 := hst.kept.size
  clear hst
  go_enter Try.func32, Try.ntmps32
  go_wp2_with fail
  refine (pick_st2 b N 32 _ _ hA0.self (by omega) (by decide)).mono ?_
  rintro e w1 ⟨x, rfl, x0, x1, j1, _⟩
  have s1 := hA0.step j1
  have hR1 := j1.blk hR0 (by omega)
  clear hA0 hR0 j1
  go_wp2_with fail
  refine (pick_st2 b (N + 1) 32 _ _ s1.self (by omega) (by decide)).mono ?_
  rintro e w2 ⟨y, rfl, y0, y1, j2, _⟩
  have s2 := s1.step j2
  have hR2 := j2.blk hR1 (by omega)
  have hz : w.heap.size < w2.heap.size := (Array.getElem?_eq_some_iff.1 hR2).1
  clear s1 hR1 j2
  have hF2 : (w2.alloc (.cells #[.int .i64 x, .int .i64 y] 24)).heap[w2.heap.size]? = some (.cells #[.int .i64 x, .int .i64 y] 24 (0, 0)) := heap_alloc_last w2 _
  have s3 := s2.alloc (.cells #[.int .i64 x, .int .i64 y] 24)
  have hR3 := blkW hR2 (.cells #[.int .i64 x, .int .i64 y] 24)
  go_upto_region 2 with fail
  obtain ⟨F, hFF⟩ : ∃ F, w2.heap.size = F := ⟨_, rfl⟩
  rw [hFF] at hF2 hz ⊢
  refine wabsW (fun V => V.heap[F]? = some (.cells #[.int .i64 x, .int .i64 y] 24 (0, 0)) ∧ V.heap[w.heap.size]? = some (.cells #[.int .i64 0, .int .i64 0] 24 (0, 0)) ∧ St2 w0 V b (N + 2)) ⟨hF2, hR3, s3⟩ ?_
  clear hF2 hR3 s3 s2 hR2 hFF
  rintro V ⟨hF, hR, hst⟩
  go_wp2_with fail
  refine (pick_st2 b (N + 2) 20 _ _ hst.self (by omega) (by decide)).mono ?_
  rintro e u1 ⟨z, rfl, z0, z1, j1, _⟩
  have st1 := hst.step j1
  have hF1 := j1.blk hF (by omega)
  have hR1 := j1.blk hR (by omega)
  clear hst hF hR j1
  by_cases e0 : (z == 0) = true
  · have hA3 := st1.alloc (.cells #[.int .i64 (-1), .int .i64 32] 3)
    have hC3 : (u1.alloc (.cells #[.int .i64 (-1), .int .i64 32] 3)).heap[u1.heap.size]? = some (.cells #[.int .i64 (-1), .int .i64 32] 3 (0, 0)) := heap_alloc_last u1 _
    have hF3 := blkW hF1 (.cells #[.int .i64 (-1), .int .i64 32] 3)
    have hR3 := blkW hR1 (.cells #[.int .i64 (-1), .int .i64 32] 3)
    have hb1 := st1.lt
    have hF1z : F < u1.heap.size := (Array.getElem?_eq_some_iff.1 hF1).1
    go_wp2_with fail
    refine (pick_st2 b (N + 3) 2 _ _ hA3.self (by omega) (by decide)).mono ?_
    rintro e u2 ⟨v, rfl, v0, v1, j2, _⟩
    have st2 := hA3.step j2
    have hF4 := j2.blk hF3 (by omega)
    have hR4 := j2.blk hR3 (by omega)
    have hC4 := j2.blk hC3 (by omega)
    clear hA3 hC3 hF3 hR3 hF1 hR1 j2 st1
    obtain ⟨c0, c1, _, _⟩ := row2w hC4
    obtain ⟨f0, f1, f2, f3⟩ := row2w hF4
    obtain ⟨r0, r1, r2, r3⟩ := row2w hR4
    rcases (by omega : v = 0 ∨ v = 1) with rfl | rfl
    · have hF5 := setW0 (.int .i64 (-1)) hF4
      have hR5 := setWo (o := 0) (.int .i64 (-1)) hR4 (show w.heap.size ≠ F by omega)
      have st5 := st2.set ⟨F, 0, none⟩ (.int .i64 (-1)) (by show w0.heap.size ≤ F; omega) (by show b < F; omega)
      go_upto_region 4 with fail
      refine wabsW (fun V => V.heap[F]? = some (.cells #[.int .i64 (-1), .int .i64 y] 24 (0, 0)) ∧ V.heap[w.heap.size]? = some (.cells #[.int .i64 0, .int .i64 0] 24 (0, 0)) ∧ St2 w0 V b (N + 4)) ⟨hF5, hR5, st5⟩ ?_
      clear hF5 hR5 st5 st2 hF4 hR4 hC4 c0 c1 f0 f1 f2 f3 r0 r1 r2 r3
      rintro V ⟨hF, hR, hst⟩
      obtain ⟨f0, f1, f2, f3⟩ := row2w hF
      obtain ⟨r0, r1, r2, r3⟩ := row2w hR
      go_wp2
      exact bodyPost_ret (results_cW rfl _ _ w.heap.size #[.int .i64 (-1), .int .i64 y] rfl (load_fw (set2W _ _ hR))) rfl ⟨⟨-1, y⟩, rfl, ⟨by show (-1 : Int) ≤ -1; decide, by show (-1 : Int) ≤ 32; decide, by show -10 ≤ y; omega, by show y ≤ 40; omega⟩, y0, (((hst.set ⟨w.heap.size, 0, none⟩ _ hw0 hbw).set ⟨w.heap.size, 1, none⟩ _ hw0 hbw).more2 (by omega))⟩
    · have hF5 := setW0 (.int .i64 32) hF4
      have hR5 := setWo (o := 0) (.int .i64 32) hR4 (show w.heap.size ≠ F by omega)
      have st5 := st2.set ⟨F, 0, none⟩ (.int .i64 32) (by show w0.heap.size ≤ F; omega) (by show b < F; omega)
      go_upto_region 4 with fail
      refine wabsW (fun V => V.heap[F]? = some (.cells #[.int .i64 32, .int .i64 y] 24 (0, 0)) ∧ V.heap[w.heap.size]? = some (.cells #[.int .i64 0, .int .i64 0] 24 (0, 0)) ∧ St2 w0 V b (N + 4)) ⟨hF5, hR5, st5⟩ ?_
      clear hF5 hR5 st5 st2 hF4 hR4 hC4 c0 c1 f0 f1 f2 f3 r0 r1 r2 r3
      rintro V ⟨hF, hR, hst⟩
      obtain ⟨f0, f1, f2, f3⟩ := row2w hF
      obtain ⟨r0, r1, r2, r3⟩ := row2w hR
      go_wp2
      exact bodyPost_ret (results_cW rfl _ _ w.heap.size #[.int .i64 32, .int .i64 y] rfl (load_fw (set2W _ _ hR))) rfl ⟨⟨32, y⟩, rfl, ⟨by show (-1 : Int) ≤ 32; decide, by show (32 : Int) ≤ 32; decide, by show -10 ≤ y; omega, by show y ≤ 40; omega⟩, y0, (((hst.set ⟨w.heap.size, 0, none⟩ _ hw0 hbw).set ⟨w.heap.size, 1, none⟩ _ hw0 hbw).more2 (by omega))⟩
  · have e0' : (z == 0) = false := by simpa using e0
    clear e0
    obtain ⟨f0, f1, f2, f3⟩ := row2w hF1
    obtain ⟨r0, r1, r2, r3⟩ := row2w hR1
    go_wp2
    exact bodyPost_ret (results_cW rfl _ _ w.heap.size #[.int .i64 x, .int .i64 y] rfl (load_fw (set2W _ _ hR1))) rfl ⟨⟨x, y⟩, rfl, ⟨by show -1 ≤ x; omega, by show x ≤ 32; omega, by show -10 ≤ y; omega, by show y ≤ 40; omega⟩, y0, (((st1.set ⟨w.heap.size, 0, none⟩ _ hw0 hbw).set ⟨w.heap.size, 1, none⟩ _ hw0 hbw).more2 (by omega))⟩
end Go.Proofs.Ytpgcmjbmkjnjnaa
