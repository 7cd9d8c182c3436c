import Derived.Test.YtmegdgkpdonikaaDoorEF
import Derived.Test.YtmegdgkpdonikaaDoorFI
namespace Go.Proofs.YtmegdgkpdonikaaDoor
open Go.RowKit
set_option linter.unusedVariables false

set_option maxRecDepth 100000 in
set_option maxHeartbeats 2000000 in
theorem fnExactFrameRead_walk (b : ByteArray) (w : World) (hG : GL w) (hN : b.size ≤ maxLen) :
    Calls Tryd.prog 8 #[.string b] w fun e w' => e = .returned (.bool true) ∧ Below w.heap.size w w' := by
  by_cases cn : (1048576 : Int) < b.size
  · go_enter Tryd.func8, Tryd.ntmps8
    go_wp2
    go_ret
    exact ⟨rfl, Below.refl _ _⟩
  have hsp := fun w => specFrameRead b w hN
  have him := fun W (hb : Below w.heap.size w W) => implFrameRead b W (hG.below hb) hN
  obtain ⟨⟨g, u, j⟩, hr⟩ : ∃ x, frRd b = x := ⟨_, rfl⟩
  rw [hr] at hsp him
  unfold Fr.val at hsp him
  dsimp only at hsp him
  have heq := fun w => eqFrame_same g w
  have hB : Below w.heap.size w w := Below.refl _ _
  clear hr
  go_enter Tryd.func8, Tryd.ntmps8
  go_wp2_with fail
  refine (hsp _).mono ?_
  rintro e v1 ⟨rfl, hb⟩
  replace hB := btF hB hb
  clear hb
  have hbA : Below v1.heap.size v1 (v1.alloc (.cells #[.int .i64 g.k, .bool g.l, .int .i64 g.s, .string g.b] 24)) := ((Below.refl _ _).alloc (Nat.le_refl _) _)
  replace hB := btF hB hbA
  clear hbA
  have C_u : (v1.alloc (.cells #[.int .i64 g.k, .bool g.l, .int .i64 g.s, .string g.b] 24)).heap[v1.heap.size]? = some (.cells #[.int .i64 g.k, .bool g.l, .int .i64 g.s, .string g.b] 24 (0, 0)) := heap_alloc_last v1 _
  go_wp2_with fail
  refine (him _ hB).mono ?_
  rintro e v2 ⟨rfl, hb⟩
  replace C_u := blkF hb C_u
  replace hB := btF hB hb
  clear hb
  have hbA : Below v2.heap.size v2 (v2.alloc (.cells #[.int .i64 g.k, .bool g.l, .int .i64 g.s, .string g.b] 24)) := ((Below.refl _ _).alloc (Nat.le_refl _) _)
  replace C_u := blkF hbA C_u
  replace hB := btF hB hbA
  clear hbA
  have C_v : (v2.alloc (.cells #[.int .i64 g.k, .bool g.l, .int .i64 g.s, .string g.b] 24)).heap[v2.heap.size]? = some (.cells #[.int .i64 g.k, .bool g.l, .int .i64 g.s, .string g.b] 24 (0, 0)) := heap_alloc_last v2 _
  obtain ⟨tu0, tu1, tu2, tu3⟩ := row4c C_u
  obtain ⟨tv0, tv1, tv2, tv3⟩ := row4c C_v
  go_wp2_with fail
  refine (heq _).mono ?_
  rintro e v3 ⟨rfl, hb⟩
  clear tu0 tu1 tu2 tu3 tv0 tv1 tv2 tv3
  replace C_u := blkF hb C_u
  replace C_v := blkF hb C_v
  replace hB := btF hB hb
  clear hb
  go_wp2
  go_ret
  exact ⟨rfl, hB⟩
end Go.Proofs.YtmegdgkpdonikaaDoor
