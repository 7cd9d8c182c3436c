import Derived.Test.YtmegdgkpdonikaaDoorFS3
import Derived.Test.YtmegdgkpdonikaaDoorFI2
import Derived.Test.YtmegdgkpdonikaaDoorAsF2
import Derived.Test.YtmegdgkpdonikaaDoorBG
import Derived.Deep.DeepCutAuto
namespace Go.Proofs.YtmegdgkpdonikaaDoor
open Go.RowKit
set_option linter.unusedVariables false

/-- What a call of FrameRead reads of the package's variables. -/
structure GL (w : World) : Prop where
  he : HE w
  cut : ∃ a : Addr, w.cell? ⟨0, 0, none⟩ = some (.iface 84 (.pointer (some a)))
theorem GL.below {w w' : World} (h : GL w) (hb : Below w.heap.size w w') : GL w' := by
  obtain ⟨a, ha⟩ := h.cut
  exact ⟨h.he.below hb, a, (hb.cell (World.block_lt_of_cell? w _ ha)).trans ha⟩
theorem results_c1tF {fn : Func} {p q : Tmp} {ty : TypeId} (h : fn.results = #[.cell p ty, .tmp q]) (tmps : Array Value) (w : World) (g : Nat) (cs : Array Value)
    (hp : tmps.getD p undef = .pointer (some ⟨g, 0, none⟩)) (hl : (loadVar ty ⟨g, 0, none⟩).run Tryd.prog w = .ok (.agg cs) w) :
    (results fn tmps).run Tryd.prog w = .ok (.tuple #[.agg cs, tmps.getD q undef]) w := by
  have hp' : tmps[p]?.getD undef = .pointer (some ⟨g, 0, none⟩) := by simpa using hp
  simp [results, h, hp', asAddr, hl]
theorem wabsH {p : Program} {c : Code} {Q : Exit → Act → World → Prop} {a : Act} {w : World} (P : World → Prop) (h : P w) (k : ∀ W, P W → Code.wp p c Q a W) : Code.wp p c Q a w := k w h
theorem row4h {W : World} {B : Nat} {a b c d : Value} {t : TypeId} (h : W.heap[B]? = some (.cells #[a, b, c, d] t (0, 0))) : (W.cell? ⟨B, 0, none⟩ = some a ∧ W.cell? ⟨B, 1, none⟩ = some b ∧ W.cell? ⟨B, 2, none⟩ = some c ∧ W.cell? ⟨B, 3, none⟩ = some d) ∧ (W.frozen? ⟨B, 0, none⟩ = false ∧ W.frozen? ⟨B, 1, none⟩ = false ∧ W.frozen? ⟨B, 2, none⟩ = false ∧ W.frozen? ⟨B, 3, none⟩ = false) := by
  refine ⟨⟨?_, ?_, ?_, ?_⟩, ?_, ?_, ?_, ?_⟩ <;> simp [World.cell?, World.frozen?, h]
theorem setsG {W : World} {B g : Nat} {a b c d v : Value} {t : TypeId} (h : W.heap[B]? = some (.cells #[a, b, c, d] t (0, 0))) (hne : g ≠ B) (hv : W.cell? ⟨g, 0, none⟩ = some v) (x y z u : Value) : ((((W.setCell ⟨B, 0, none⟩ x).setCell ⟨B, 1, none⟩ y).setCell ⟨B, 2, none⟩ z).setCell ⟨B, 3, none⟩ u).cell? ⟨g, 0, none⟩ = some v := by
  rw [← hv]
  have k := fun (W : World) (p : Addr) (v : Value) (hp : g ≠ p.block) => Below.heap_setCell W p v g hp
  unfold World.cell?
  simp only [k _ ⟨B, 3, none⟩ _ hne, k _ ⟨B, 2, none⟩ _ hne, k _ ⟨B, 1, none⟩ _ hne, k _ ⟨B, 0, none⟩ _ hne]

set_option maxRecDepth 100000 in
set_option maxHeartbeats 1000000 in
theorem first_short (s : ByteArray) (w : World) (a : Addr) (ha : w.cell? ⟨0, 0, none⟩ = some (.iface 84 (.pointer (some a)))) (h4 : s.size < 4) (hs : s.size ≤ maxLen) :
    Calls Tryd.prog 22 #[.string s] w fun e w' => e = .returned (.tuple #[zFr.val, .iface 84 (.pointer (some a))]) ∧ Below w.heap.size w w' := by
  unfold maxLen at hs
  have hB0 : Below w.heap.size w (w.alloc (.cells #[.int .i64 0, .bool false, .int .i64 0, .string ⟨#[]⟩] 24)) := (Below.refl _ _).alloc (Nat.le_refl _) _
  have hR0 : Hid ((w.alloc (.cells #[.int .i64 0, .bool false, .int .i64 0, .string ⟨#[]⟩] 24)).heap[w.heap.size]? = some (.cells #[.int .i64 0, .bool false, .int .i64 0, .string ⟨#[]⟩] 24 (0, 0))) := heap_alloc_last w _
  have hlt : 0 < w.heap.size := World.block_lt_of_cell? w _ ha
  have hc0 : (w.alloc (.cells #[.int .i64 0, .bool false, .int .i64 0, .string ⟨#[]⟩] 24)).cell? ⟨0, 0, none⟩ = some (.iface 84 (.pointer (some a))) := by rw [World.cell?_alloc_lt _ _ ⟨0, 0, none⟩ hlt]; exact ha
  have h4' : (s.size : Int) < 4 := by omega
  clear h4
  go_enter Tryd.func22, Tryd.ntmps22
  go_wp2_with fail
  refine wabsH (fun V => V.cell? ⟨0, 0, none⟩ = some (.iface 84 (.pointer (some a))) ∧ V.heap[w.heap.size]? = some (.cells #[.int .i64 0, .bool false, .int .i64 0, .string ⟨#[]⟩] 24 (0, 0)) ∧ Below w.heap.size w V) ⟨hc0, hR0.out, hB0⟩ ?_
  clear hc0 hR0 hB0 ha
  rintro V ⟨hc, hR, hB⟩
  have HR : Hid _ := hR
  obtain ⟨R, hRR⟩ : ∃ R, w.heap.size = R := ⟨_, rfl⟩
  have r0 := (row4h hR).1
  have f0 := (row4h hR).2
  rw [hRR] at r0 f0 hlt ⊢
  have hset := fun x y z u => setsG hR (show 0 ≠ w.heap.size by omega) hc x y z u
  rw [hRR] at hset
  have hne : ¬ R = 0 := by omega
  have hne' : ¬ 0 = R := by omega
  clear hR
  go_region
  all_goals
    go_wp2
    rw [← hRR]
    exact bodyPost_ret (results_c1tF rfl _ _ w.heap.size #[.int .i64 0, .bool false, .int .i64 0, .string ⟨#[]⟩] rfl (load_fr (set4_heap _ _ _ _ HR.out))) rfl ⟨rfl, (bel4 hB (Nat.le_refl _) _ _ _ _).drew⟩
set_option maxRecDepth 100000 in
set_option maxHeartbeats 1000000 in
theorem first_big (s : ByteArray) (w : World) (a : Addr) (ha : w.cell? ⟨0, 0, none⟩ = some (.iface 84 (.pointer (some a)))) (x0 x1 x2 x3 : Int) (a0 : ∀ h, ((s[0]'h).toNat : Int) = x0) (a1 : ∀ h, ((s[1]'h).toNat : Int) = x1) (a2 : ∀ h, ((s[2]'h).toNat : Int) = x2) (a3 : ∀ h, ((s[3]'h).toNat : Int) = x3) (b0 : 0 ≤ x0 ∧ x0 ≤ 255) (b1 : 0 ≤ x1 ∧ x1 ≤ 255) (b2 : 0 ≤ x2 ∧ x2 ≤ 255) (b3 : 0 ≤ x3 ∧ x3 ≤ 255) (h4 : 4 ≤ s.size) (hn : 200 < x0) (hs : s.size ≤ maxLen) :
    Calls Tryd.prog 22 #[.string s] w fun e w' => (∃ why : ByteArray, e = .returned (.tuple #[zFr.val, .iface 43 (.agg #[.string why])])) ∧ Below w.heap.size w w' := by
  unfold maxLen at hs
  have hB0 : Below w.heap.size w (w.alloc (.cells #[.int .i64 0, .bool false, .int .i64 0, .string ⟨#[]⟩] 24)) := (Below.refl _ _).alloc (Nat.le_refl _) _
  have hR0 : Hid ((w.alloc (.cells #[.int .i64 0, .bool false, .int .i64 0, .string ⟨#[]⟩] 24)).heap[w.heap.size]? = some (.cells #[.int .i64 0, .bool false, .int .i64 0, .string ⟨#[]⟩] 24 (0, 0))) := heap_alloc_last w _
  have hlt : 0 < w.heap.size := World.block_lt_of_cell? w _ ha
  have hc0 : (w.alloc (.cells #[.int .i64 0, .bool false, .int .i64 0, .string ⟨#[]⟩] 24)).cell? ⟨0, 0, none⟩ = some (.iface 84 (.pointer (some a))) := by rw [World.cell?_alloc_lt _ _ ⟨0, 0, none⟩ hlt]; exact ha
  have h4' : ¬ (s.size : Int) < 4 := by omega
  have q0 : 0 < s.size := by omega
  have q1 : 1 < s.size := by omega
  have q2 : 2 < s.size := by omega
  have q3 : 3 < s.size := by omega
  have c0 := a0 q0
  have c1 := a1 q1
  have c2 := a2 q2
  have c3 := a3 q3
  clear a0 a1 a2 a3 h4
  obtain ⟨b00, b01⟩ := b0
  obtain ⟨b10, b11⟩ := b1
  obtain ⟨b20, b21⟩ := b2
  obtain ⟨b30, b31⟩ := b3
  go_enter Tryd.func22, Tryd.ntmps22
  go_wp2_with fail
  refine wabsH (fun V => V.cell? ⟨0, 0, none⟩ = some (.iface 84 (.pointer (some a))) ∧ V.heap[w.heap.size]? = some (.cells #[.int .i64 0, .bool false, .int .i64 0, .string ⟨#[]⟩] 24 (0, 0)) ∧ Below w.heap.size w V) ⟨hc0, hR0.out, hB0⟩ ?_
  clear hc0 hR0 hB0 ha
  rintro V ⟨hc, hR, hB⟩
  go_region
  all_goals
    replace hR : V.drew.heap[w.heap.size]? = some (.cells #[.int .i64 0, .bool false, .int .i64 0, .string ⟨#[]⟩] 24 (0, 0)) := hR
    replace hB : Below w.heap.size w V.drew := hB.drew
    replace hc : V.drew.cell? ⟨0, 0, none⟩ = some (.iface 84 (.pointer (some a))) := hc
    go_upto_region 4 with fail
    refine wabsH (fun V => V.cell? ⟨0, 0, none⟩ = some (.iface 84 (.pointer (some a))) ∧ V.heap[w.heap.size]? = some (.cells #[.int .i64 0, .bool false, .int .i64 0, .string ⟨#[]⟩] 24 (0, 0)) ∧ Below w.heap.size w V) ⟨hc, hR, hB⟩ ?_
    clear hc hR hB
    rintro V ⟨hc, hR, hB⟩
    have f0 := (row4h hR).2
    have r0 := (row4h hR).1
    have HR : Hid _ := hR
    clear hR
    go_wp2
    exact bodyPost_ret (results_c1tF rfl _ _ w.heap.size #[.int .i64 0, .bool false, .int .i64 0, .string ⟨#[]⟩] rfl (load_fr (set4_heap _ _ _ _ HR.out))) rfl ⟨⟨_, rfl⟩, bel4 hB (Nat.le_refl _) _ _ _ _⟩
end Go.Proofs.YtmegdgkpdonikaaDoor
