import Derived.Test.YtmegdgkpdonikaaDoorFL0
import Derived.Test.YtmegdgkpdonikaaDoorFI
import Derived.Test.YtmegdgkpdonikaaDoorFD
import Derived.Deep.DeepCutAuto
import Derived.Deep.RegionHeld3
namespace Go.Proofs.YtmegdgkpdonikaaDoor
open Go.RowKit
set_option linter.unusedVariables false

set_option maxRecDepth 100000 in
set_option maxHeartbeats 20000000 in
theorem fnFrameStrict_walk (a0 : Option Addr) (len0 cap0 : Nat) (z0 : List Int) (w : World) (hG : GL w) (w0 : Row w a0 len0 cap0 z0) :
    Calls Tryd.prog 4 #[.slice a0 len0 cap0] w fun e w' => e = .returned (.bool true) ∧ Below w.heap.size w w' := by
  by_cases c0 : (1048576 : Int) < len0
  · clear w0
    go_enter Tryd.func4, Tryd.ntmps4
    go_wp2
    go_ret
    exact ⟨rfl, Below.refl _ _⟩
  have R0 : Hid (Row w a0 len0 cap0 z0) := w0
  clear w0
  go_enter Tryd.func4, Tryd.ntmps4
  go_wp2_with fail
  refine (drawFrameRead _ _ _ _ _ R0.out).mono ?_
  rintro e w1 ⟨b, rfl, hzb, hB⟩
  clear R0
  have hSR := fun w => specFrameRead b w (by unfold maxLen; omega)
  have hIR := fun W (hb : Below w.heap.size w W) => implFrameRead b W (hG.below hb) (by unfold maxLen; omega)
  obtain ⟨⟨g, u, j⟩, hr⟩ : ∃ x, frRd b = x := ⟨_, rfl⟩
  rw [hr] at hSR hIR
  unfold Fr.val at hSR hIR
  dsimp only at hSR hIR
  have heq := eqFr_run g g
  rw [eqFr_self] at heq
  by_cases hj : j = 1
  · subst hj
    obtain ⟨h1, h2, h3, h4⟩ := frRd_strict hr
    have hbd := frOk_bd h1
    have hIO := fun w => implFrameOk g w (by unfold maxLen; omega)
    have hIW := fun w => implFrameWrite g w (by unfold maxLen; omega)
    rw [h1] at hIO
    rw [frWr_ok h1, h4] at hIW
    unfold Fr.val at hIO hIW
    have hsl : ∀ W : World, (Instr.slice 9 (.string b) none (some (.int .i64 u)) none).run Tryd.prog W = .ok (.string (b.extract 0 (4 + g.b.size))) W := fun W => by
      have h := run_slice_string_h (P := Tryd.prog) W 9 b Tryd.underlying9 .i64 u (by omega) (by omega)
      rw [show u.toNat = 4 + g.b.size by omega] at h
      exact h
    obtain ⟨q, hq⟩ : ∃ q, b.extract 0 (4 + g.b.size) = q := ⟨_, rfl⟩
    rw [hq] at hIW hsl
    clear hr h1 h2 h3 h4 hbd hq
    go_wp2_with fail
    refine (hSR _).mono ?_
    rintro e v1 ⟨rfl, hb⟩
    replace hB := btF hB hb
    clear hb
    clear hSR
    have hbA : Below v1.heap.size v1 (v1.alloc (.cells #[.int .i64 g.k, .bool g.l, .int .i64 g.s, .string g.b] 24)) := ((Below.refl _ _).alloc (Nat.le_refl _) _)
    replace hB := btF hB hbA
    clear hbA
    have C_v : (v1.alloc (.cells #[.int .i64 g.k, .bool g.l, .int .i64 g.s, .string g.b] 24)).heap[v1.heap.size]? = some (.cells #[.int .i64 g.k, .bool g.l, .int .i64 g.s, .string g.b] 24 (0, 0)) := heap_alloc_last v1 _
    go_wp2_with fail
    refine (hIR _ hB).mono ?_
    rintro e v2 ⟨rfl, hb⟩
    replace C_v := blkF hb C_v
    replace hB := btF hB hb
    clear hb
    clear hIR
    have hbA : Below v2.heap.size v2 (v2.alloc (.cells #[.int .i64 g.k, .bool g.l, .int .i64 g.s, .string g.b] 24)) := ((Below.refl _ _).alloc (Nat.le_refl _) _)
    replace C_v := blkF hbA C_v
    replace hB := btF hB hbA
    clear hbA
    have C_f : (v2.alloc (.cells #[.int .i64 g.k, .bool g.l, .int .i64 g.s, .string g.b] 24)).heap[v2.heap.size]? = some (.cells #[.int .i64 g.k, .bool g.l, .int .i64 g.s, .string g.b] 24 (0, 0)) := heap_alloc_last v2 _
    obtain ⟨tv0, tv1, tv2, tv3⟩ := row4c C_v
    obtain ⟨tf0, tf1, tf2, tf3⟩ := row4c C_f
    go_upto_region 8 with fail
    clear tv0 tv1 tv2 tv3 tf0 tf1 tf2 tf3
    refine wabsF (fun U => U.heap[v2.heap.size]? = some (.cells #[.int .i64 g.k, .bool g.l, .int .i64 g.s, .string g.b] 24 (0, 0)) ∧ Below w.heap.size w U) ⟨C_f, hB⟩ ?_
    clear C_v C_f hB
    rintro U ⟨C_f, hB⟩
    obtain ⟨p0, p1, p2, p3⟩ := row4c C_f
    have hmx : Tryd.prog.follows .mixedOrders = true := by kernel_rfl
    have hkeepU : ∀ w1 w2 : World, Below w1.heap.size w1 w2 → (w1.cell? ⟨v2.heap.size, 0, none⟩ = some (.int .i64 g.k) ∧ w1.cell? ⟨v2.heap.size, 1, none⟩ = some (.bool g.l) ∧ w1.cell? ⟨v2.heap.size, 2, none⟩ = some (.int .i64 g.s) ∧ w1.cell? ⟨v2.heap.size, 3, none⟩ = some (.string g.b) ∧ Below U.heap.size U w1) → (w2.cell? ⟨v2.heap.size, 0, none⟩ = some (.int .i64 g.k) ∧ w2.cell? ⟨v2.heap.size, 1, none⟩ = some (.bool g.l) ∧ w2.cell? ⟨v2.heap.size, 2, none⟩ = some (.int .i64 g.s) ∧ w2.cell? ⟨v2.heap.size, 3, none⟩ = some (.string g.b) ∧ Below U.heap.size U w2) := by
      rintro w1 w2 hb ⟨h0, h1, h2, h3, hB⟩
      exact ⟨keepF hb h0, keepF hb h1, keepF hb h2, keepF hb h3, btF hB hb⟩
    have hBelU : ∀ w' : World, (w'.cell? ⟨v2.heap.size, 0, none⟩ = some (.int .i64 g.k) ∧ w'.cell? ⟨v2.heap.size, 1, none⟩ = some (.bool g.l) ∧ w'.cell? ⟨v2.heap.size, 2, none⟩ = some (.int .i64 g.s) ∧ w'.cell? ⟨v2.heap.size, 3, none⟩ = some (.string g.b) ∧ Below U.heap.size U w') → Below U.heap.size U w' := fun w' h => h.2.2.2.2
    have hU0 : U.cell? ⟨v2.heap.size, 0, none⟩ = some (.int .i64 g.k) ∧ U.cell? ⟨v2.heap.size, 1, none⟩ = some (.bool g.l) ∧ U.cell? ⟨v2.heap.size, 2, none⟩ = some (.int .i64 g.s) ∧ U.cell? ⟨v2.heap.size, 3, none⟩ = some (.string g.b) ∧ Below U.heap.size U U := ⟨p0, p1, p2, p3, Below.refl _ _⟩
    clear p0 p1 p2 p3
    go_region_held3 (fun w' => w'.cell? ⟨v2.heap.size, 0, none⟩ = some (.int .i64 g.k) ∧ w'.cell? ⟨v2.heap.size, 1, none⟩ = some (.bool g.l) ∧ w'.cell? ⟨v2.heap.size, 2, none⟩ = some (.int .i64 g.s) ∧ w'.cell? ⟨v2.heap.size, 3, none⟩ = some (.string g.b) ∧ Below U.heap.size U w') (first | assumption | exact hkeepU _ _ ((Below.refl _ _).drew) hU0 | exact hkeepU _ _ hbN (by assumption)) ((first | (go_at_call 15; refine (hIO _).mono ?_; clear hIO; rintro e wN ⟨rfl, hbN⟩) | (go_at_call 10; refine (hIW _).mono ?_; clear hIW; rintro e wN ⟨rfl, hbN⟩)))
    have hU1 : wN.cell? ⟨v2.heap.size, 0, none⟩ = some (.int .i64 g.k) ∧ wN.cell? ⟨v2.heap.size, 1, none⟩ = some (.bool g.l) ∧ wN.cell? ⟨v2.heap.size, 2, none⟩ = some (.int .i64 g.s) ∧ wN.cell? ⟨v2.heap.size, 3, none⟩ = some (.string g.b) ∧ Below U.heap.size U wN := by first | assumption | exact hkeepU _ _ hbN (by assumption)
    go_wp2
    go_ret
    exact ⟨rfl, btF hB (hBelU _ hU1)⟩
  · have hj' : (j == 1) = false := by simpa using hj
    clear hr
    go_wp2_with fail
    refine (hSR _).mono ?_
    rintro e v1 ⟨rfl, hb⟩
    replace hB := btF hB hb
    clear hb
    clear hSR
    have hbA : Below v1.heap.size v1 (v1.alloc (.cells #[.int .i64 g.k, .bool g.l, .int .i64 g.s, .string g.b] 24)) := ((Below.refl _ _).alloc (Nat.le_refl _) _)
    replace hB := btF hB hbA
    clear hbA
    have C_v : (v1.alloc (.cells #[.int .i64 g.k, .bool g.l, .int .i64 g.s, .string g.b] 24)).heap[v1.heap.size]? = some (.cells #[.int .i64 g.k, .bool g.l, .int .i64 g.s, .string g.b] 24 (0, 0)) := heap_alloc_last v1 _
    go_wp2_with fail
    refine (hIR _ hB).mono ?_
    rintro e v2 ⟨rfl, hb⟩
    replace C_v := blkF hb C_v
    replace hB := btF hB hb
    clear hb
    clear hIR
    have hbA : Below v2.heap.size v2 (v2.alloc (.cells #[.int .i64 g.k, .bool g.l, .int .i64 g.s, .string g.b] 24)) := ((Below.refl _ _).alloc (Nat.le_refl _) _)
    replace C_v := blkF hbA C_v
    replace hB := btF hB hbA
    clear hbA
    have C_f : (v2.alloc (.cells #[.int .i64 g.k, .bool g.l, .int .i64 g.s, .string g.b] 24)).heap[v2.heap.size]? = some (.cells #[.int .i64 g.k, .bool g.l, .int .i64 g.s, .string g.b] 24 (0, 0)) := heap_alloc_last v2 _
    obtain ⟨tv0, tv1, tv2, tv3⟩ := row4c C_v
    obtain ⟨tf0, tf1, tf2, tf3⟩ := row4c C_f
    go_wp2
    go_ret
    exact ⟨rfl, hB⟩
end Go.Proofs.YtmegdgkpdonikaaDoor
