import Derived.Test.YtmegdgkpdonikaaDoorFI3
namespace Go.Proofs.YtmegdgkpdonikaaDoor
open Go.RowKit
set_option linter.unusedVariables false

set_option maxRecDepth 100000 in
set_option maxHeartbeats 1000000 in
theorem first_ok1 (s : ByteArray) (w : World) (a : Addr) (ha : w.cell? ⟨0, 0, none⟩ = some (.iface 84 (.pointer (some a)))) (x0 x1 x2 x3 : Int) (a0 : ∀ h, ((s[0]'h).toNat : Int) = x0) (a1 : ∀ h, ((s[1]'h).toNat : Int) = x1) (a2 : ∀ h, ((s[2]'h).toNat : Int) = x2) (a3 : ∀ h, ((s[3]'h).toNat : Int) = x3) (b0 : 0 ≤ x0 ∧ x0 ≤ 255) (b1 : 0 ≤ x1 ∧ x1 ≤ 255) (b2 : 0 ≤ x2 ∧ x2 ≤ 255) (b3 : 0 ≤ x3 ∧ x3 ≤ 255) (h4 : 4 ≤ s.size) (hn : ¬ 200 < x0) (ht : x2 = 1) (hl : ¬ (s.size : Int) < 4 + x0) (y : ByteArray) (hy : s.extract 4 (4 + x0.toNat) = y) (hys : y.size ≤ 200) (hk : frOk ⟨x1, true, x3, y⟩ = true) (hs : s.size ≤ maxLen) :
    Calls Tryd.prog 22 #[.string s] w fun e w' => e = .returned (.tuple #[.agg #[.int .i64 x1, .bool true, .int .i64 x3, .string y], .nilIface]) ∧ Below w.heap.size w w' := by
  unfold maxLen at hs
  have hB0 : Below w.heap.size w (w.alloc (.cells #[.int .i64 0, .bool false, .int .i64 0, .string ⟨#[]⟩] 24)) := (Below.refl _ _).alloc (Nat.le_refl _) _
  have hR0 : Hid ((w.alloc (.cells #[.int .i64 0, .bool false, .int .i64 0, .string ⟨#[]⟩] 24)).heap[w.heap.size]? = some (.cells #[.int .i64 0, .bool false, .int .i64 0, .string ⟨#[]⟩] 24 (0, 0))) := heap_alloc_last w _
  subst ht
  have hsl : ∀ W : World, (Instr.slice 9 (.string s) (some (.int .i64 4)) (some (.int .i64 (4 + x0))) none).run Tryd.prog W = .ok (.string y) W := fun W => by
    have h := run_slice_string (P := Tryd.prog) W 9 s .i64 .i64 4 (4 + x0) Tryd.underlying9 (by decide) (by omega) (by omega)
    rw [show (4 + x0).toNat = 4 + x0.toNat by omega, show (4 : Int).toNat = 4 from rfl, hy] at h
    exact h
  have hw4 : IntKind.i64.wrap (4 + x0) = 4 + x0 := by rw [IntKind.wrap_i64]; omega
  have hok := fun w => implFrameOk ⟨x1, true, x3, y⟩ w (by show y.size ≤ maxLen; unfold maxLen; omega)
  unfold Fr.val at hok
  dsimp only at hok
  rw [hk] at hok
  have hcl := fun w => clone_big y w (by omega)
  clear hk hy
  have hlt : 0 < w.heap.size := World.block_lt_of_cell? w _ ha
  have hc0 : (w.alloc (.cells #[.int .i64 0, .bool false, .int .i64 0, .string ⟨#[]⟩] 24)).cell? ⟨0, 0, none⟩ = some (.iface 84 (.pointer (some a))) := by rw [World.cell?_alloc_lt _ _ ⟨0, 0, none⟩ hlt]; exact ha
  have h4' : ¬ (s.size : Int) < 4 := by omega
  have q0 : 0 < s.size := by omega
  have q1 : 1 < s.size := by omega
  have q2 : 2 < s.size := by omega
  have q3 : 3 < s.size := by omega
  have c0 := a0 q0
  have c1 := a1 q1
  have c2 := a2 q2
  have c3 := a3 q3
  clear a0 a1 a2 a3 h4
  obtain ⟨b00, b01⟩ := b0
  obtain ⟨b10, b11⟩ := b1
  obtain ⟨b20, b21⟩ := b2
  obtain ⟨b30, b31⟩ := b3
  go_enter Tryd.func22, Tryd.ntmps22
  go_wp2_with fail
  refine wabsH (fun V => V.cell? ⟨0, 0, none⟩ = some (.iface 84 (.pointer (some a))) ∧ V.heap[w.heap.size]? = some (.cells #[.int .i64 0, .bool false, .int .i64 0, .string ⟨#[]⟩] 24 (0, 0)) ∧ Below w.heap.size w V) ⟨hc0, hR0.out, hB0⟩ ?_
  clear hc0 hR0 hB0 ha
  rintro V ⟨hc, hR, hB⟩
  go_region
  all_goals
    replace hR : V.drew.heap[w.heap.size]? = some (.cells #[.int .i64 0, .bool false, .int .i64 0, .string ⟨#[]⟩] 24 (0, 0)) := hR
    replace hB : Below w.heap.size w V.drew := hB.drew
    replace hc : V.drew.cell? ⟨0, 0, none⟩ = some (.iface 84 (.pointer (some a))) := hc
    go_upto_region 4 with fail
    refine wabsH (fun V => V.cell? ⟨0, 0, none⟩ = some (.iface 84 (.pointer (some a))) ∧ V.heap[w.heap.size]? = some (.cells #[.int .i64 0, .bool false, .int .i64 0, .string ⟨#[]⟩] 24 (0, 0)) ∧ Below w.heap.size w V) ⟨hc, hR, hB⟩ ?_
    clear hc hR hB
    rintro V ⟨hc, hR, hB⟩
    have hl' : ¬ (s.size : Int) - 4 < x0 := by omega
    clear hl hc
    go_wp2_with fail
    refine (hcl _).mono ?_
    rintro e w1 ⟨rfl, hb1⟩
    replace hR := (hb1.block _ (Array.getElem?_eq_some_iff.1 hR).1).trans hR
    replace hB := btF hB hb1
    clear hcl hb1 hsl
    have hA : Below w1.heap.size w1 (w1.alloc (.cells #[.int .i64 x1, .bool true, .int .i64 x3, .string y] 24)) := (Below.refl _ _).alloc (Nat.le_refl _) _
    have hX : (w1.alloc (.cells #[.int .i64 x1, .bool true, .int .i64 x3, .string y] 24)).heap[w1.heap.size]? = some (.cells #[.int .i64 x1, .bool true, .int .i64 x3, .string y] 24 (0, 0)) := heap_alloc_last w1 _
    replace hR := (hA.block _ (Array.getElem?_eq_some_iff.1 hR).1).trans hR
    replace hB := btF hB hA
    go_wp2_with fail
    refine (hok _).mono ?_
    rintro e w2 ⟨rfl, hb2⟩
    replace hX := (hb2.block _ (Array.getElem?_eq_some_iff.1 hX).1).trans hX
    replace hR := (hb2.block _ (Array.getElem?_eq_some_iff.1 hR).1).trans hR
    replace hB := btF hB hb2
    clear hok hb2 hA
    obtain ⟨R, hRR⟩ : ∃ R, w1.heap.size = R := ⟨_, rfl⟩
    rw [hRR] at hX ⊢
    have r1 := (row4h hX).1
    have f0 := (row4h hR).2
    have r0 := (row4h hR).1
    have HR : Hid _ := hR
    clear hR hX
    go_wp2
    exact bodyPost_ret (results_c1tF rfl _ _ w.heap.size #[.int .i64 x1, .bool true, .int .i64 x3, .string y] rfl (load_fr (set4_heap _ _ _ _ HR.out))) rfl ⟨rfl, bel4 hB (Nat.le_refl _) _ _ _ _⟩
set_option maxRecDepth 100000 in
set_option maxHeartbeats 1000000 in
theorem first_no1 (s : ByteArray) (w : World) (a : Addr) (ha : w.cell? ⟨0, 0, none⟩ = some (.iface 84 (.pointer (some a)))) (x0 x1 x2 x3 : Int) (a0 : ∀ h, ((s[0]'h).toNat : Int) = x0) (a1 : ∀ h, ((s[1]'h).toNat : Int) = x1) (a2 : ∀ h, ((s[2]'h).toNat : Int) = x2) (a3 : ∀ h, ((s[3]'h).toNat : Int) = x3) (b0 : 0 ≤ x0 ∧ x0 ≤ 255) (b1 : 0 ≤ x1 ∧ x1 ≤ 255) (b2 : 0 ≤ x2 ∧ x2 ≤ 255) (b3 : 0 ≤ x3 ∧ x3 ≤ 255) (h4 : 4 ≤ s.size) (hn : ¬ 200 < x0) (ht : x2 = 1) (hl : ¬ (s.size : Int) < 4 + x0) (y : ByteArray) (hy : s.extract 4 (4 + x0.toNat) = y) (hys : y.size ≤ 200) (hk : frOk ⟨x1, true, x3, y⟩ = false) (hs : s.size ≤ maxLen) :
    Calls Tryd.prog 22 #[.string s] w fun e w' => (∃ why : ByteArray, e = .returned (.tuple #[zFr.val, .iface 43 (.agg #[.string why])])) ∧ Below w.heap.size w w' := by
  unfold maxLen at hs
  have hB0 : Below w.heap.size w (w.alloc (.cells #[.int .i64 0, .bool false, .int .i64 0, .string ⟨#[]⟩] 24)) := (Below.refl _ _).alloc (Nat.le_refl _) _
  have hR0 : Hid ((w.alloc (.cells #[.int .i64 0, .bool false, .int .i64 0, .string ⟨#[]⟩] 24)).heap[w.heap.size]? = some (.cells #[.int .i64 0, .bool false, .int .i64 0, .string ⟨#[]⟩] 24 (0, 0))) := heap_alloc_last w _
  subst ht
  have hsl : ∀ W : World, (Instr.slice 9 (.string s) (some (.int .i64 4)) (some (.int .i64 (4 + x0))) none).run Tryd.prog W = .ok (.string y) W := fun W => by
    have h := run_slice_string (P := Tryd.prog) W 9 s .i64 .i64 4 (4 + x0) Tryd.underlying9 (by decide) (by omega) (by omega)
    rw [show (4 + x0).toNat = 4 + x0.toNat by omega, show (4 : Int).toNat = 4 from rfl, hy] at h
    exact h
  have hw4 : IntKind.i64.wrap (4 + x0) = 4 + x0 := by rw [IntKind.wrap_i64]; omega
  have hok := fun w => implFrameOk ⟨x1, true, x3, y⟩ w (by show y.size ≤ maxLen; unfold maxLen; omega)
  unfold Fr.val at hok
  dsimp only at hok
  rw [hk] at hok
  have hcl := fun w => clone_big y w (by omega)
  clear hk hy
  have hlt : 0 < w.heap.size := World.block_lt_of_cell? w _ ha
  have hc0 : (w.alloc (.cells #[.int .i64 0, .bool false, .int .i64 0, .string ⟨#[]⟩] 24)).cell? ⟨0, 0, none⟩ = some (.iface 84 (.pointer (some a))) := by rw [World.cell?_alloc_lt _ _ ⟨0, 0, none⟩ hlt]; exact ha
  have h4' : ¬ (s.size : Int) < 4 := by omega
  have q0 : 0 < s.size := by omega
  have q1 : 1 < s.size := by omega
  have q2 : 2 < s.size := by omega
  have q3 : 3 < s.size := by omega
  have c0 := a0 q0
  have c1 := a1 q1
  have c2 := a2 q2
  have c3 := a3 q3
  clear a0 a1 a2 a3 h4
  obtain ⟨b00, b01⟩ := b0
  obtain ⟨b10, b11⟩ := b1
  obtain ⟨b20, b21⟩ := b2
  obtain ⟨b30, b31⟩ := b3
  go_enter Tryd.func22, Tryd.ntmps22
  go_wp2_with fail
  refine wabsH (fun V => V.cell? ⟨0, 0, none⟩ = some (.iface 84 (.pointer (some a))) ∧ V.heap[w.heap.size]? = some (.cells #[.int .i64 0, .bool false, .int .i64 0, .string ⟨#[]⟩] 24 (0, 0)) ∧ Below w.heap.size w V) ⟨hc0, hR0.out, hB0⟩ ?_
  clear hc0 hR0 hB0 ha
  rintro V ⟨hc, hR, hB⟩
  go_region
  all_goals
    replace hR : V.drew.heap[w.heap.size]? = some (.cells #[.int .i64 0, .bool false, .int .i64 0, .string ⟨#[]⟩] 24 (0, 0)) := hR
    replace hB : Below w.heap.size w V.drew := hB.drew
    replace hc : V.drew.cell? ⟨0, 0, none⟩ = some (.iface 84 (.pointer (some a))) := hc
    go_upto_region 4 with fail
    refine wabsH (fun V => V.cell? ⟨0, 0, none⟩ = some (.iface 84 (.pointer (some a))) ∧ V.heap[w.heap.size]? = some (.cells #[.int .i64 0, .bool false, .int .i64 0, .string ⟨#[]⟩] 24 (0, 0)) ∧ Below w.heap.size w V) ⟨hc, hR, hB⟩ ?_
    clear hc hR hB
    rintro V ⟨hc, hR, hB⟩
    have hl' : ¬ (s.size : Int) - 4 < x0 := by omega
    clear hl hc
    go_wp2_with fail
    refine (hcl _).mono ?_
    rintro e w1 ⟨rfl, hb1⟩
    replace hR := (hb1.block _ (Array.getElem?_eq_some_iff.1 hR).1).trans hR
    replace hB := btF hB hb1
    clear hcl hb1 hsl
    have hA : Below w1.heap.size w1 (w1.alloc (.cells #[.int .i64 x1, .bool true, .int .i64 x3, .string y] 24)) := (Below.refl _ _).alloc (Nat.le_refl _) _
    have hX : (w1.alloc (.cells #[.int .i64 x1, .bool true, .int .i64 x3, .string y] 24)).heap[w1.heap.size]? = some (.cells #[.int .i64 x1, .bool true, .int .i64 x3, .string y] 24 (0, 0)) := heap_alloc_last w1 _
    replace hR := (hA.block _ (Array.getElem?_eq_some_iff.1 hR).1).trans hR
    replace hB := btF hB hA
    go_wp2_with fail
    refine (hok _).mono ?_
    rintro e w2 ⟨rfl, hb2⟩
    replace hX := (hb2.block _ (Array.getElem?_eq_some_iff.1 hX).1).trans hX
    replace hR := (hb2.block _ (Array.getElem?_eq_some_iff.1 hR).1).trans hR
    replace hB := btF hB hb2
    clear hok hb2 hA
    obtain ⟨R, hRR⟩ : ∃ R, w1.heap.size = R := ⟨_, rfl⟩
    rw [hRR] at hX ⊢
    have r1 := (row4h hX).1
    have f0 := (row4h hR).2
    have r0 := (row4h hR).1
    have HR : Hid _ := hR
    clear hR hX
    go_wp2
    exact bodyPost_ret (results_c1tF rfl _ _ w.heap.size #[.int .i64 0, .bool false, .int .i64 0, .string ⟨#[]⟩] rfl (load_fr (set4_heap _ _ _ _ HR.out))) rfl ⟨⟨_, rfl⟩, bel4 hB (Nat.le_refl _) _ _ _ _⟩
end Go.Proofs.YtmegdgkpdonikaaDoor
