import Derived.Test.YtmegdgkpdonikaaDoorFD0
namespace Go.Proofs.YtmegdgkpdonikaaDoor
open Go.RowKit
set_option linter.unusedVariables false

theorem St2.belF {w w1 w2 : World} {b N B : Nat} (hb : Below B w w1) (h : St2 w1 w2 b N) (hB : B ≤ b) (hs : B ≤ w1.heap.size) : Below B w w2 :=
  hb.grown h.kept hs (fun q hq => by injection hq with hq; omega)
theorem open_st2F (a : Option Addr) (len cap : Nat) (zs : List Int) (w : World) (hr : Row w a len cap zs) :
    Calls Tryd.prog 19 #[.slice a len cap] w fun e w' => e = .returned (.pointer (some ⟨w.heap.size, 0, none⟩)) ∧ St2 w' w' w.heap.size 0 ∧ Below w.heap.size w w' ∧ w'.heap.size = w.heap.size + 1 := by
  refine (l6Open_any a len cap zs w hr).mono ?_
  rintro e w' ⟨rfl, hd, hb, hs⟩
  exact ⟨rfl, St2.start hd (by omega), hb, hs⟩

set_option maxRecDepth 100000 in
set_option maxHeartbeats 1000000 in
theorem drawFrameWrite (a : Option Addr) (len cap : Nat) (zs : List Int) (w : World) (hr : Row w a len cap zs) :
    Calls Tryd.prog 9 #[.slice a len cap] w fun e w' => ∃ f : Fr, e = .returned f.val ∧ f.b.size ≤ 300 ∧ Below w.heap.size w w' := by
  have hb0 : Below w.heap.size w (w.alloc (.cells #[.int .i64 0, .bool false, .int .i64 0, .string ⟨#[]⟩] 24)) := (Below.refl _ _).alloc (Nat.le_refl _) _
  have hR0 : Hid ((w.alloc (.cells #[.int .i64 0, .bool false, .int .i64 0, .string ⟨#[]⟩] 24)).heap[w.heap.size]? = some (.cells #[.int .i64 0, .bool false, .int .i64 0, .string ⟨#[]⟩] 24 (0, 0))) := heap_alloc_last w _
  have HR : Hid (Row w a len cap zs) := hr
  clear hr
  go_enter Tryd.func9, Tryd.ntmps9
  go_wp2_with fail
  refine (open_st2F _ _ _ _ _ (HR.out.below hb0)).mono ?_
  rw [World.size_alloc]
  rintro e w1 ⟨rfl, s1, hb1, hz1⟩
  have hR1 := (hb1.block w.heap.size (by simp)).trans hR0.out
  have hB1 : Below w.heap.size w w1 := hb0.trans (hb1.mono (by simp))
  clear hR0 hb0 hb1 HR
  go_wp2_with fail
  refine (l71Frame_any (w.heap.size + 1) 0 _ _ s1 (by decide)).mono ?_
  rintro e w2 ⟨f, rfl, hz, s2⟩
  unfold Fr.val
  have hR2 := s2.blk hR1 (by omega)
  have hB2 := s2.belF hB1 (by omega) hB1.size
  clear s1 s2 hR1 hB1
  obtain ⟨r0, r1, r2, r3, r4, r5, r6, r7⟩ := row4f hR2
  go_wp2
  exact bodyPost_ret (results_c1F rfl _ _ w.heap.size #[.int .i64 f.k, .bool f.l, .int .i64 f.s, .string f.b] rfl (load_fr (set4_heap _ _ _ _ hR2))) rfl ⟨f, rfl, hz, bel4 hB2 (Nat.le_refl _) _ _ _ _⟩
end Go.Proofs.YtmegdgkpdonikaaDoor
