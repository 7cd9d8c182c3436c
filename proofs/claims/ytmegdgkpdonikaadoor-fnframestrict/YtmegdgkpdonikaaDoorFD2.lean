import Derived.Test.YtmegdgkpdonikaaDoorFD1
namespace Go.Proofs.YtmegdgkpdonikaaDoor
open Go.RowKit
set_option linter.unusedVariables false

theorem wabsK {p : Program} {c : Code} {Q : Exit → Act → World → Prop} {a : Act} {w : World} (P : World → Prop) (h : P w) (k : ∀ W, P W → Code.wp p c Q a W) : Code.wp p c Q a w := k w h

set_option maxRecDepth 100000 in
set_option maxHeartbeats 1000000 in
theorem drawFrameOk (a : Option Addr) (len cap : Nat) (zs : List Int) (w : World) (hr : Row w a len cap zs) :
    Calls Tryd.prog 16 #[.slice a len cap] w fun e w' => ∃ f : Fr, e = .returned f.val ∧ f.b.size ≤ 300 ∧ Below w.heap.size w w' := by
  have hb0 : Below w.heap.size w (w.alloc (.cells #[.int .i64 0, .bool false, .int .i64 0, .string ⟨#[]⟩] 24)) := (Below.refl _ _).alloc (Nat.le_refl _) _
  have hR0 : Hid ((w.alloc (.cells #[.int .i64 0, .bool false, .int .i64 0, .string ⟨#[]⟩] 24)).heap[w.heap.size]? = some (.cells #[.int .i64 0, .bool false, .int .i64 0, .string ⟨#[]⟩] 24 (0, 0))) := heap_alloc_last w _
  have HR : Hid (Row w a len cap zs) := hr
  clear hr
  go_enter Tryd.func16, Tryd.ntmps16
  go_wp2_with fail
  refine (open_st2F _ _ _ _ _ (HR.out.below hb0)).mono ?_
  rw [World.size_alloc]
  rintro e w1 ⟨rfl, s1, hb1, hz1⟩
  have hR1 := (hb1.block w.heap.size (by simp)).trans hR0.out
  have hB1 : Below w.heap.size w w1 := hb0.trans (hb1.mono (by simp))
  clear hR0 hb0 hb1 HR
  go_wp2_with fail
  refine (l71Frame_any (w.heap.size + 1) 0 _ _ s1 (by decide)).mono ?_
  rintro e w2 ⟨f, rfl, hz, s2⟩
  unfold Fr.val
  have hR2 := s2.blk hR1 (by omega)
  have hB2 := s2.belF hB1 (by omega) hB1.size
  have hz2 := s2.kept.size
  clear hR1 hB1
  obtain ⟨k, l, sm, b⟩ := f
  dsimp only at hz ⊢
  have hF : (w2.alloc (.cells #[.int .i64 k, .bool l, .int .i64 sm, .string b] 24)).heap[w2.heap.size]? = some (.cells #[.int .i64 k, .bool l, .int .i64 sm, .string b] 24 (0, 0)) := heap_alloc_last w2 _
  have s3 := s2.alloc (.cells #[.int .i64 k, .bool l, .int .i64 sm, .string b] 24)
  have hR3 := blkTF hR2 (.cells #[.int .i64 k, .bool l, .int .i64 sm, .string b] 24)
  have hB3 : Below w.heap.size w (w2.alloc (.cells #[.int .i64 k, .bool l, .int .i64 sm, .string b] 24)) := hB2.alloc hB2.size _
  clear s2 hR2 hB2
  go_upto_region 3 with fail
  obtain ⟨F, hFF⟩ : ∃ F, w2.heap.size = F := ⟨_, rfl⟩
  rw [hFF] at hF hz2 ⊢
  refine wabsK (fun V => V.heap[F]? = some (.cells #[.int .i64 k, .bool l, .int .i64 sm, .string b] 24 (0, 0)) ∧ V.heap[w.heap.size]? = some (.cells #[.int .i64 0, .bool false, .int .i64 0, .string ⟨#[]⟩] 24 (0, 0)) ∧ St2 w1 V (w.heap.size + 1) 200 ∧ Below w.heap.size w V) ⟨hF, hR3, s3, hB3⟩ ?_
  clear hF hR3 s3 hB3 hFF s1
  rintro V ⟨hF, hR, hst, hB⟩
  go_wp2_with fail
  refine (pick_st2 (w.heap.size + 1) 200 5 _ _ hst.self (by decide) (by decide)).mono ?_
  rintro e u1 ⟨x, rfl, x0, x1, j1, _⟩
  have hF1 := j1.blk hF (by omega)
  have hR1 := j1.blk hR (by omega)
  have hB1 := j1.belF hB (by omega) hB.size
  clear hst hF hR hB
  by_cases e0 : (x == 0) = true
  · go_wp2_with fail
    refine (pick_st2 (w.heap.size + 1) (200 + 1) 10 _ _ j1.self (by decide) (by decide)).mono ?_
    rintro e u2 ⟨y, rfl, y0, y1, j2, _⟩
    have hF2 := j2.blk hF1 (by omega)
    have hR2 := j2.blk hR1 (by omega)
    have hB2 := j2.belF hB1 (by omega) hB1.size
    clear j1 j2 hF1 hR1 hB1 x0 x1 y0 y1
    obtain ⟨q0, q1, q2, q3, q4, q5, q6, q7⟩ := row4f hF2
    obtain ⟨p0, p1, p2, p3, p4, p5, p6, p7⟩ := row4f hR2
    have hB3 := hB2.setCell (p := ⟨F, 0, none⟩) (show w.heap.size ≤ F by omega) (.int .i64 y)
    have hR3 := setFo (o := 0) (B := F) (.int .i64 y) hR2 (show w.heap.size ≠ F by omega)
    have hF3 := setF0 (.int .i64 y) hF2
    clear hF2 hR2 hB2
    go_upto_region 5 with fail
    refine wabsK (fun V => V.heap[F]? = some (.cells #[.int .i64 y, .bool l, .int .i64 sm, .string b] 24 (0, 0)) ∧ V.heap[w.heap.size]? = some (.cells #[.int .i64 0, .bool false, .int .i64 0, .string ⟨#[]⟩] 24 (0, 0)) ∧ Below w.heap.size w V) ⟨hF3, hR3, hB3⟩ ?_
    clear hF3 hR3 hB3 q0 q1 q2 q3 q4 q5 q6 q7 p0 p1 p2 p3 p4 p5 p6 p7
    rintro V ⟨hF, hR, hB⟩
    obtain ⟨q0, q1, q2, q3, q4, q5, q6, q7⟩ := row4f hF
    obtain ⟨p0, p1, p2, p3, p4, p5, p6, p7⟩ := row4f hR
    go_wp2
    exact bodyPost_ret (results_c1F rfl _ _ w.heap.size #[.int .i64 y, .bool l, .int .i64 sm, .string b] rfl (load_fr (set4_heap _ _ _ _ hR))) rfl ⟨⟨y, l, sm, b⟩, rfl, hz, bel4 hB (Nat.le_refl _) _ _ _ _⟩
  · have e0' : (x == 0) = false := by simpa using e0
    clear e0 j1
    obtain ⟨q0, q1, q2, q3, q4, q5, q6, q7⟩ := row4f hF1
    obtain ⟨p0, p1, p2, p3, p4, p5, p6, p7⟩ := row4f hR1
    go_wp2
    exact bodyPost_ret (results_c1F rfl _ _ w.heap.size #[.int .i64 k, .bool l, .int .i64 sm, .string b] rfl (load_fr (set4_heap _ _ _ _ hR1))) rfl ⟨⟨k, l, sm, b⟩, rfl, hz, bel4 hB1 (Nat.le_refl _) _ _ _ _⟩
end Go.Proofs.YtmegdgkpdonikaaDoor
