import Derived.Test.YtmegdgkpdonikaaDoorFS3
import Derived.Test.YtmegdgkpdonikaaDoorFMany
import Derived.Test.YtmegdgkpdonikaaDoorBR
import Derived.Deep.DeepCutAuto
import Derived.Deep.CutBlock
import Derived.Deep.RegionLaw
import Derived.Deep.RegionHeld3
namespace Go.Proofs.YtmegdgkpdonikaaDoor
open Go.RowKit
set_option linter.unusedVariables false
theorem wabsG {p : Program} {c : Code} {Q : Exit → Act → World → Prop} {a : Act} {w : World} (P : World → Prop) (h : P w) (k : ∀ W, P W → Code.wp p c Q a W) : Code.wp p c Q a w := k w h
theorem drew_heapF (W : World) : W.drew.heap = W.heap := rfl
def arrV (k : Nat) : Int := if k = 0 then 0 else if k = 1 then 1 else if k = 2 then 3 else 8
theorem arrV_bd (k : Nat) : 0 ≤ arrV k ∧ arrV k ≤ 8 := by unfold arrV; split; omega; split; omega; split; omega; omega
theorem arr1 (W : World) (k : Nat) (h : k < 4) : (W.alloc (.cells #[.int .i64 0, .int .i64 1, .int .i64 3, .int .i64 8] 3)).cell? ⟨W.heap.size, k, none⟩ = some (.int .i64 (arrV k)) := by
  rcases (by omega : k = 0 ∨ k = 1 ∨ k = 2 ∨ k = 3) with rfl | rfl | rfl | rfl <;> simp [arrV]
theorem arr2 (W : World) (o : Obj) (k : Nat) (h : k < 4) : ((W.alloc o).alloc (.cells #[.int .i64 0, .int .i64 1, .int .i64 3, .int .i64 8] 3)).cell? ⟨W.heap.size + 1, k, none⟩ = some (.int .i64 (arrV k)) := by
  have := arr1 (W.alloc o) k h
  rwa [World.size_alloc] at this
theorem arr3 (W : World) (o : Obj) (k : Nat) (h : k < 4) : ((W.alloc (.cells #[.int .i64 0, .int .i64 1, .int .i64 3, .int .i64 8] 3)).alloc o).cell? ⟨W.heap.size, k, none⟩ = some (.int .i64 (arrV k)) := keepF ((Below.refl _ _).alloc (Nat.le_refl _) _) (arr1 W k h)
theorem last2 (W : World) (o o' : Obj) : ((W.alloc o).alloc o').heap[W.heap.size + 1]? = some o' := by
  have := heap_alloc_last (W.alloc o) o'
  rwa [World.size_alloc] at this
theorem row4f {W : World} {B : Nat} {a b c d : Value} {t : TypeId} (h : W.heap[B]? = some (.cells #[a, b, c, d] t (0, 0))) : W.cell? ⟨B, 0, none⟩ = some a ∧ W.cell? ⟨B, 1, none⟩ = some b ∧ W.cell? ⟨B, 2, none⟩ = some c ∧ W.cell? ⟨B, 3, none⟩ = some d ∧ W.frozen? ⟨B, 0, none⟩ = false ∧ W.frozen? ⟨B, 1, none⟩ = false ∧ W.frozen? ⟨B, 2, none⟩ = false ∧ W.frozen? ⟨B, 3, none⟩ = false := by
  refine ⟨?_, ?_, ?_, ?_, ?_, ?_, ?_, ?_⟩ <;> simp [World.cell?, World.frozen?, h]
theorem St2.set4 {w0 w : World} {b N : Nat} (h : St2 w0 w b N) (g : Nat) (x y z u : Value) (hp : w0.heap.size ≤ g) (hb : b < g) : St2 w0 ((((w.setCell ⟨g, 0, none⟩ x).setCell ⟨g, 1, none⟩ y).setCell ⟨g, 2, none⟩ z).setCell ⟨g, 3, none⟩ u) b N := (((h.set ⟨g, 0, none⟩ x hp hb).set ⟨g, 1, none⟩ y hp hb).set ⟨g, 2, none⟩ z hp hb).set ⟨g, 3, none⟩ u hp hb
theorem set4_other {W : World} {B C : Nat} {o : Obj} (x y z u : Value) (h : W.heap[C]? = some o) (hne : C ≠ B) : ((((W.setCell ⟨B, 0, none⟩ x).setCell ⟨B, 1, none⟩ y).setCell ⟨B, 2, none⟩ z).setCell ⟨B, 3, none⟩ u).heap[C]? = some o := by
  have g := fun (W : World) (p : Addr) (v : Value) (hp : C ≠ p.block) => Below.heap_setCell W p v C hp
  rw [g _ ⟨B, 3, none⟩ _ hne, g _ ⟨B, 2, none⟩ _ hne, g _ ⟨B, 1, none⟩ _ hne, g _ ⟨B, 0, none⟩ _ hne]
  exact h

theorem setF0 {W : World} {B : Nat} {a b c d : Value} {t : TypeId} (y : Value) (h : W.heap[B]? = some (.cells #[a, b, c, d] t (0, 0))) : (W.setCell ⟨B, 0, none⟩ y).heap[B]? = some (.cells #[y, b, c, d] t (0, 0)) := by
  have := setc_heapF 0 y h
  simpa using this
theorem setF1 {W : World} {B : Nat} {a b c d : Value} {t : TypeId} (y : Value) (h : W.heap[B]? = some (.cells #[a, b, c, d] t (0, 0))) : (W.setCell ⟨B, 1, none⟩ y).heap[B]? = some (.cells #[a, y, c, d] t (0, 0)) := by
  have := setc_heapF 1 y h
  simpa using this
theorem setF2 {W : World} {B : Nat} {a b c d : Value} {t : TypeId} (y : Value) (h : W.heap[B]? = some (.cells #[a, b, c, d] t (0, 0))) : (W.setCell ⟨B, 2, none⟩ y).heap[B]? = some (.cells #[a, b, y, d] t (0, 0)) := by
  have := setc_heapF 2 y h
  simpa using this
theorem setF3 {W : World} {B : Nat} {a b c d : Value} {t : TypeId} (y : Value) (h : W.heap[B]? = some (.cells #[a, b, c, d] t (0, 0))) : (W.setCell ⟨B, 3, none⟩ y).heap[B]? = some (.cells #[a, b, c, y] t (0, 0)) := by
  have := setc_heapF 3 y h
  simpa using this
theorem setFo {W : World} {B C o : Nat} {x : Obj} (y : Value) (h : W.heap[C]? = some x) (hne : C ≠ B) : (W.setCell ⟨B, o, none⟩ y).heap[C]? = some x := (Below.heap_setCell W ⟨B, o, none⟩ y C hne).trans h
theorem results_c1F {fn : Func} {p : Tmp} {ty : TypeId} (h : fn.results = #[.cell p ty]) (tmps : Array Value) (w : World) (g : Nat) (cs : Array Value)
    (hp : tmps.getD p undef = .pointer (some ⟨g, 0, none⟩)) (hl : (loadVar ty ⟨g, 0, none⟩).run Tryd.prog w = .ok (.agg cs) w) :
    (results fn tmps).run Tryd.prog w = .ok (.agg cs) w := by
  have hp' : tmps[p]?.getD undef = .pointer (some ⟨g, 0, none⟩) := by simpa using hp
  simp [results, h, hp', asAddr, hl]

set_option maxRecDepth 100000 in
set_option maxHeartbeats 8000000 in
theorem l71Frame_any (b N : Nat) (w0 w : World) (hst : St2 w0 w b N) (hN : N ≤ 500000) :
    Calls Tryd.prog 18 #[.pointer (some ⟨b, 0, none⟩)] w fun e w' => ∃ f : Fr, e = .returned f.val ∧ f.b.size ≤ 300 ∧ St2 w0 w' b (N + 200) := by
  have hmx : Tryd.prog.follows .mixedOrders = true := by kernel_rfl
  have hA0 : St2 w0 (w.alloc (.cells #[.int .i64 0, .bool false, .int .i64 0, .string ⟨#[]⟩] 24)) b N := hst.alloc _
  have hR0 : (w.alloc (.cells #[.int .i64 0, .bool false, .int .i64 0, .string ⟨#[]⟩] 24)).heap[w.heap.size]? = some (.cells #[.int .i64 0, .bool false, .int .i64 0, .string ⟨#[]⟩] 24 (0, 0)) := heap_alloc_last w _
  have hbw := hst.lt
  have hw0 := hst.kept.size
  clear hst
  go_enter Tryd.func18, Tryd.ntmps18
  go_upto_region 1 with fail
  refine wabsG (fun V => St2 w0 V b N ∧ V.heap[w.heap.size]? = some (.cells #[.int .i64 0, .bool false, .int .i64 0, .string ⟨#[]⟩] 24 (0, 0))) ⟨hA0, hR0⟩ ?_
  clear hA0 hR0
  rintro V ⟨hV, hR⟩
  have hA : St2 w0 V.drew b N := hV.grow ((Below.refl _ _).drew)
  have hlt := (Array.getElem?_eq_some_iff.1 hR).1
  have harr1 := arr1
  have harr2 := arr2
  have harr3 := arr3
  go_cut [3] (fun s3 wx => ∃ (F : Nat) (k s : Int), s3 = .pointer (some ⟨F, 0, none⟩) ∧ w.heap.size < F ∧ wx.heap[F]? = some (.cells #[.int .i64 k, .bool false, .int .i64 s, .string ⟨#[]⟩] 24 (0, 0)) ∧ wx.heap[w.heap.size]? = some (.cells #[.int .i64 0, .bool false, .int .i64 0, .string ⟨#[]⟩] 24 (0, 0)) ∧ St2 w0 wx b (N + 2) ∧ 0 ≤ k ∧ k ≤ 8 ∧ 0 ≤ s ∧ s ≤ 7)
  case first =>
    go_region_law ((first | (go_simp; refine (pick_st2 b N 4 _ _ (by first | exact hA | exact hA.alloc _ | exact (hA.alloc _).alloc _) (by omega) (by decide)).mono ?_; rintro e w3 ⟨v3, rfl, v30, v31, k3, o3⟩; obtain ⟨kn, rfl⟩ : ∃ kn : Nat, v3 = (kn : Int) := ⟨v3.toNat, (by omega)⟩; have hkn : kn < 4 := (by omega); have hkn' : (kn : Int) < 4 := (by omega); have hz3 : V.heap.size ≤ w3.heap.size := (by have hq := o3.size; (try simp only [drew_heapF, World.size_alloc] at hq); omega); have hr3 : w3.heap[w.heap.size]? = some (.cells #[.int .i64 0, .bool false, .int .i64 0, .string ⟨#[]⟩] 24 (0, 0)) := (o3.block _ (by omega)).trans (by first | exact hR | exact blkTF hR (.cells #[.int .i64 0, .bool false, .int .i64 0, .string ⟨#[]⟩] 24) | exact blkTF hR (.cells #[.int .i64 0, .int .i64 1, .int .i64 3, .int .i64 8] 3) | exact blkTF (blkTF hR (.cells #[.int .i64 0, .bool false, .int .i64 0, .string ⟨#[]⟩] 24)) (.cells #[.int .i64 0, .int .i64 1, .int .i64 3, .int .i64 8] 3) | exact blkTF (blkTF hR (.cells #[.int .i64 0, .int .i64 1, .int .i64 3, .int .i64 8] 3)) (.cells #[.int .i64 0, .bool false, .int .i64 0, .string ⟨#[]⟩] 24)); (first | (have cG : w3.cell? ⟨V.heap.size, kn, none⟩ = some (.int .i64 (arrV kn)) := (o3.cell (p := ⟨V.heap.size, kn, none⟩) (show V.heap.size ≠ b from (by omega))).trans (arr1 V.drew kn hkn); have cGa : (w3.alloc (.cells #[.int .i64 0, .bool false, .int .i64 0, .string ⟨#[]⟩] 24)).cell? ⟨V.heap.size, kn, none⟩ = some (.int .i64 (arrV kn)) := keepF ((Below.refl w3.heap.size w3).alloc (Nat.le_refl _) (.cells #[.int .i64 0, .bool false, .int .i64 0, .string ⟨#[]⟩] 24)) cG) | (have cG : w3.cell? ⟨V.heap.size, kn, none⟩ = some (.int .i64 (arrV kn)) := (o3.cell (p := ⟨V.heap.size, kn, none⟩) (show V.heap.size ≠ b from (by omega))).trans (arr3 V.drew (.cells #[.int .i64 0, .bool false, .int .i64 0, .string ⟨#[]⟩] 24) kn hkn); have cGa : (w3.alloc (.cells #[.int .i64 0, .bool false, .int .i64 0, .string ⟨#[]⟩] 24)).cell? ⟨V.heap.size, kn, none⟩ = some (.int .i64 (arrV kn)) := keepF ((Below.refl w3.heap.size w3).alloc (Nat.le_refl _) (.cells #[.int .i64 0, .bool false, .int .i64 0, .string ⟨#[]⟩] 24)) cG) | (have cG : w3.cell? ⟨V.heap.size + 1, kn, none⟩ = some (.int .i64 (arrV kn)) := (o3.cell (p := ⟨V.heap.size + 1, kn, none⟩) (show V.heap.size + 1 ≠ b from (by omega))).trans (arr2 V.drew (.cells #[.int .i64 0, .bool false, .int .i64 0, .string ⟨#[]⟩] 24) kn hkn); have cGa : (w3.alloc (.cells #[.int .i64 0, .bool false, .int .i64 0, .string ⟨#[]⟩] 24)).cell? ⟨V.heap.size + 1, kn, none⟩ = some (.int .i64 (arrV kn)) := keepF ((Below.refl w3.heap.size w3).alloc (Nat.le_refl _) (.cells #[.int .i64 0, .bool false, .int .i64 0, .string ⟨#[]⟩] 24)) cG) | skip); (first | (have rF : w3.heap[V.heap.size]? = some (.cells #[.int .i64 0, .bool false, .int .i64 0, .string ⟨#[]⟩] 24 (0, 0)) := (o3.block (V.heap.size) (by omega)).trans (heap_alloc_last V.drew (.cells #[.int .i64 0, .bool false, .int .i64 0, .string ⟨#[]⟩] 24)); obtain ⟨rF0, rF1, rF2, rF3, rF4, rF5, rF6, rF7⟩ := row4f rF; obtain ⟨rF8, rF9, rF10, rF11, rF12, rF13, rF14, rF15⟩ := row4f (blkTF rF (.cells #[.int .i64 0, .int .i64 1, .int .i64 3, .int .i64 8] 3))) | (have rF : w3.heap[V.heap.size]? = some (.cells #[.int .i64 0, .bool false, .int .i64 0, .string ⟨#[]⟩] 24 (0, 0)) := (o3.block (V.heap.size) (by omega)).trans (blkTF (heap_alloc_last V.drew (.cells #[.int .i64 0, .bool false, .int .i64 0, .string ⟨#[]⟩] 24)) (.cells #[.int .i64 0, .int .i64 1, .int .i64 3, .int .i64 8] 3)); obtain ⟨rF0, rF1, rF2, rF3, rF4, rF5, rF6, rF7⟩ := row4f rF; obtain ⟨rF8, rF9, rF10, rF11, rF12, rF13, rF14, rF15⟩ := row4f (blkTF rF (.cells #[.int .i64 0, .int .i64 1, .int .i64 3, .int .i64 8] 3))) | (have rF : w3.heap[V.heap.size + 1]? = some (.cells #[.int .i64 0, .bool false, .int .i64 0, .string ⟨#[]⟩] 24 (0, 0)) := (o3.block (V.heap.size + 1) (by omega)).trans (last2 V.drew (.cells #[.int .i64 0, .int .i64 1, .int .i64 3, .int .i64 8] 3) (.cells #[.int .i64 0, .bool false, .int .i64 0, .string ⟨#[]⟩] 24)); obtain ⟨rF0, rF1, rF2, rF3, rF4, rF5, rF6, rF7⟩ := row4f rF; obtain ⟨rF8, rF9, rF10, rF11, rF12, rF13, rF14, rF15⟩ := row4f (blkTF rF (.cells #[.int .i64 0, .int .i64 1, .int .i64 3, .int .i64 8] 3))) | skip); skip) | (go_simp; refine (pick_st2 b (N + 1) 4 _ _ (by first | exact k3 | exact k3.alloc _ | exact (k3.alloc _).alloc _) (by omega) (by decide)).mono ?_; rintro e w4 ⟨v4, rfl, v40, v41, k4, o4⟩; have hz4 : w3.heap.size ≤ w4.heap.size := (by have hq := o4.size; (try simp only [World.size_alloc] at hq); omega); have hr4 : w4.heap[w.heap.size]? = some (.cells #[.int .i64 0, .bool false, .int .i64 0, .string ⟨#[]⟩] 24 (0, 0)) := (o4.block _ (by omega)).trans (by first | exact hr3 | exact blkTF hr3 (.cells #[.int .i64 0, .bool false, .int .i64 0, .string ⟨#[]⟩] 24) | exact blkTF hr3 (.cells #[.int .i64 0, .int .i64 1, .int .i64 3, .int .i64 8] 3) | exact blkTF (blkTF hr3 (.cells #[.int .i64 0, .bool false, .int .i64 0, .string ⟨#[]⟩] 24)) (.cells #[.int .i64 0, .int .i64 1, .int .i64 3, .int .i64 8] 3) | exact blkTF (blkTF hr3 (.cells #[.int .i64 0, .int .i64 1, .int .i64 3, .int .i64 8] 3)) (.cells #[.int .i64 0, .bool false, .int .i64 0, .string ⟨#[]⟩] 24)); (first | (have dG : w4.cell? ⟨V.heap.size, kn, none⟩ = some (.int .i64 (arrV kn)) := (o4.cell (p := ⟨V.heap.size, kn, none⟩) (show V.heap.size ≠ b from (by omega))).trans (cG); have dGa : (w4.alloc (.cells #[.int .i64 0, .bool false, .int .i64 0, .string ⟨#[]⟩] 24)).cell? ⟨V.heap.size, kn, none⟩ = some (.int .i64 (arrV kn)) := keepF ((Below.refl w4.heap.size w4).alloc (Nat.le_refl _) (.cells #[.int .i64 0, .bool false, .int .i64 0, .string ⟨#[]⟩] 24)) dG) | (have dG : w4.cell? ⟨V.heap.size, kn, none⟩ = some (.int .i64 (arrV kn)) := (o4.cell (p := ⟨V.heap.size, kn, none⟩) (show V.heap.size ≠ b from (by omega))).trans (keepF ((Below.refl w3.heap.size w3).alloc (Nat.le_refl _) (.cells #[.int .i64 0, .bool false, .int .i64 0, .string ⟨#[]⟩] 24)) cG); have dGa : (w4.alloc (.cells #[.int .i64 0, .bool false, .int .i64 0, .string ⟨#[]⟩] 24)).cell? ⟨V.heap.size, kn, none⟩ = some (.int .i64 (arrV kn)) := keepF ((Below.refl w4.heap.size w4).alloc (Nat.le_refl _) (.cells #[.int .i64 0, .bool false, .int .i64 0, .string ⟨#[]⟩] 24)) dG) | (have dG : w4.cell? ⟨V.heap.size + 1, kn, none⟩ = some (.int .i64 (arrV kn)) := (o4.cell (p := ⟨V.heap.size + 1, kn, none⟩) (show V.heap.size + 1 ≠ b from (by omega))).trans (cG); have dGa : (w4.alloc (.cells #[.int .i64 0, .bool false, .int .i64 0, .string ⟨#[]⟩] 24)).cell? ⟨V.heap.size + 1, kn, none⟩ = some (.int .i64 (arrV kn)) := keepF ((Below.refl w4.heap.size w4).alloc (Nat.le_refl _) (.cells #[.int .i64 0, .bool false, .int .i64 0, .string ⟨#[]⟩] 24)) dG) | (have dG : w4.cell? ⟨V.heap.size + 1, kn, none⟩ = some (.int .i64 (arrV kn)) := (o4.cell (p := ⟨V.heap.size + 1, kn, none⟩) (show V.heap.size + 1 ≠ b from (by omega))).trans (keepF ((Below.refl w3.heap.size w3).alloc (Nat.le_refl _) (.cells #[.int .i64 0, .bool false, .int .i64 0, .string ⟨#[]⟩] 24)) cG); have dGa : (w4.alloc (.cells #[.int .i64 0, .bool false, .int .i64 0, .string ⟨#[]⟩] 24)).cell? ⟨V.heap.size + 1, kn, none⟩ = some (.int .i64 (arrV kn)) := keepF ((Below.refl w4.heap.size w4).alloc (Nat.le_refl _) (.cells #[.int .i64 0, .bool false, .int .i64 0, .string ⟨#[]⟩] 24)) dG) | (have dG : w4.cell? ⟨w3.heap.size, kn, none⟩ = some (.int .i64 (arrV kn)) := (o4.cell (p := ⟨w3.heap.size, kn, none⟩) (show w3.heap.size ≠ b from (by omega))).trans (arr1 w3 kn hkn); have dGa : (w4.alloc (.cells #[.int .i64 0, .bool false, .int .i64 0, .string ⟨#[]⟩] 24)).cell? ⟨w3.heap.size, kn, none⟩ = some (.int .i64 (arrV kn)) := keepF ((Below.refl w4.heap.size w4).alloc (Nat.le_refl _) (.cells #[.int .i64 0, .bool false, .int .i64 0, .string ⟨#[]⟩] 24)) dG) | (have dG : w4.cell? ⟨w3.heap.size, kn, none⟩ = some (.int .i64 (arrV kn)) := (o4.cell (p := ⟨w3.heap.size, kn, none⟩) (show w3.heap.size ≠ b from (by omega))).trans (arr3 w3 (.cells #[.int .i64 0, .bool false, .int .i64 0, .string ⟨#[]⟩] 24) kn hkn); have dGa : (w4.alloc (.cells #[.int .i64 0, .bool false, .int .i64 0, .string ⟨#[]⟩] 24)).cell? ⟨w3.heap.size, kn, none⟩ = some (.int .i64 (arrV kn)) := keepF ((Below.refl w4.heap.size w4).alloc (Nat.le_refl _) (.cells #[.int .i64 0, .bool false, .int .i64 0, .string ⟨#[]⟩] 24)) dG) | (have dG : w4.cell? ⟨w3.heap.size + 1, kn, none⟩ = some (.int .i64 (arrV kn)) := (o4.cell (p := ⟨w3.heap.size + 1, kn, none⟩) (show w3.heap.size + 1 ≠ b from (by omega))).trans (arr2 w3 (.cells #[.int .i64 0, .bool false, .int .i64 0, .string ⟨#[]⟩] 24) kn hkn); have dGa : (w4.alloc (.cells #[.int .i64 0, .bool false, .int .i64 0, .string ⟨#[]⟩] 24)).cell? ⟨w3.heap.size + 1, kn, none⟩ = some (.int .i64 (arrV kn)) := keepF ((Below.refl w4.heap.size w4).alloc (Nat.le_refl _) (.cells #[.int .i64 0, .bool false, .int .i64 0, .string ⟨#[]⟩] 24)) dG) | skip); (first | (have sF : w4.heap[V.heap.size]? = some (.cells #[.int .i64 0, .bool false, .int .i64 0, .string ⟨#[]⟩] 24 (0, 0)) := (o4.block (V.heap.size) (by omega)).trans (rF); obtain ⟨sF0, sF1, sF2, sF3, sF4, sF5, sF6, sF7⟩ := row4f sF; obtain ⟨sF8, sF9, sF10, sF11, sF12, sF13, sF14, sF15⟩ := row4f (blkTF sF (.cells #[.int .i64 0, .int .i64 1, .int .i64 3, .int .i64 8] 3))) | (have sF : w4.heap[V.heap.size]? = some (.cells #[.int .i64 0, .bool false, .int .i64 0, .string ⟨#[]⟩] 24 (0, 0)) := (o4.block (V.heap.size) (by omega)).trans (blkTF rF (.cells #[.int .i64 0, .int .i64 1, .int .i64 3, .int .i64 8] 3)); obtain ⟨sF0, sF1, sF2, sF3, sF4, sF5, sF6, sF7⟩ := row4f sF; obtain ⟨sF8, sF9, sF10, sF11, sF12, sF13, sF14, sF15⟩ := row4f (blkTF sF (.cells #[.int .i64 0, .int .i64 1, .int .i64 3, .int .i64 8] 3))) | (have sF : w4.heap[V.heap.size + 1]? = some (.cells #[.int .i64 0, .bool false, .int .i64 0, .string ⟨#[]⟩] 24 (0, 0)) := (o4.block (V.heap.size + 1) (by omega)).trans (rF); obtain ⟨sF0, sF1, sF2, sF3, sF4, sF5, sF6, sF7⟩ := row4f sF; obtain ⟨sF8, sF9, sF10, sF11, sF12, sF13, sF14, sF15⟩ := row4f (blkTF sF (.cells #[.int .i64 0, .int .i64 1, .int .i64 3, .int .i64 8] 3))) | (have sF : w4.heap[V.heap.size + 1]? = some (.cells #[.int .i64 0, .bool false, .int .i64 0, .string ⟨#[]⟩] 24 (0, 0)) := (o4.block (V.heap.size + 1) (by omega)).trans (blkTF rF (.cells #[.int .i64 0, .int .i64 1, .int .i64 3, .int .i64 8] 3)); obtain ⟨sF0, sF1, sF2, sF3, sF4, sF5, sF6, sF7⟩ := row4f sF; obtain ⟨sF8, sF9, sF10, sF11, sF12, sF13, sF14, sF15⟩ := row4f (blkTF sF (.cells #[.int .i64 0, .int .i64 1, .int .i64 3, .int .i64 8] 3))) | (have sF : w4.heap[w3.heap.size]? = some (.cells #[.int .i64 0, .bool false, .int .i64 0, .string ⟨#[]⟩] 24 (0, 0)) := (o4.block (w3.heap.size) (by omega)).trans (heap_alloc_last w3 (.cells #[.int .i64 0, .bool false, .int .i64 0, .string ⟨#[]⟩] 24)); obtain ⟨sF0, sF1, sF2, sF3, sF4, sF5, sF6, sF7⟩ := row4f sF; obtain ⟨sF8, sF9, sF10, sF11, sF12, sF13, sF14, sF15⟩ := row4f (blkTF sF (.cells #[.int .i64 0, .int .i64 1, .int .i64 3, .int .i64 8] 3))) | (have sF : w4.heap[w3.heap.size]? = some (.cells #[.int .i64 0, .bool false, .int .i64 0, .string ⟨#[]⟩] 24 (0, 0)) := (o4.block (w3.heap.size) (by omega)).trans (blkTF (heap_alloc_last w3 (.cells #[.int .i64 0, .bool false, .int .i64 0, .string ⟨#[]⟩] 24)) (.cells #[.int .i64 0, .int .i64 1, .int .i64 3, .int .i64 8] 3)); obtain ⟨sF0, sF1, sF2, sF3, sF4, sF5, sF6, sF7⟩ := row4f sF; obtain ⟨sF8, sF9, sF10, sF11, sF12, sF13, sF14, sF15⟩ := row4f (blkTF sF (.cells #[.int .i64 0, .int .i64 1, .int .i64 3, .int .i64 8] 3))) | (have sF : w4.heap[w3.heap.size + 1]? = some (.cells #[.int .i64 0, .bool false, .int .i64 0, .string ⟨#[]⟩] 24 (0, 0)) := (o4.block (w3.heap.size + 1) (by omega)).trans (last2 w3 (.cells #[.int .i64 0, .int .i64 1, .int .i64 3, .int .i64 8] 3) (.cells #[.int .i64 0, .bool false, .int .i64 0, .string ⟨#[]⟩] 24)); obtain ⟨sF0, sF1, sF2, sF3, sF4, sF5, sF6, sF7⟩ := row4f sF; obtain ⟨sF8, sF9, sF10, sF11, sF12, sF13, sF14, sF15⟩ := row4f (blkTF sF (.cells #[.int .i64 0, .int .i64 1, .int .i64 3, .int .i64 8] 3))) | skip); have hw1 : IntKind.i64.wrap (2 * v4) = 2 * v4 := (by rw [IntKind.wrap_i64]; omega); have hw2 : IntKind.i64.wrap (1 + 2 * v4) = 1 + 2 * v4 := (by rw [IntKind.wrap_i64]; omega))))
    all_goals
      go_wp2_with fail
      go_meet
      refine ⟨_, arrV kn, 1 + 2 * v4, rfl, ?_, ?_, ?_, ?_, (arrV_bd kn).1, (arrV_bd kn).2, by omega, by omega⟩
      · omega
      · first
          | with_reducible exact set4_heap _ _ _ _ sF
          | with_reducible exact set4_heap _ _ _ _ (blkTF sF _)
          | with_reducible exact heap_alloc_last _ _
          | with_reducible exact last2 _ _ _
          | with_reducible exact blkTF (heap_alloc_last _ _) _
      · first
          | with_reducible exact set4_other _ _ _ _ hr4 (by omega)
          | with_reducible exact set4_other _ _ _ _ (blkTF hr4 _) (by omega)
          | with_reducible exact blkTF hr4 _
          | with_reducible exact blkTF (blkTF hr4 _) _
      · first
          | with_reducible exact k4.set4 _ _ _ _ _ (by omega) (by omega)
          | with_reducible exact (k4.alloc _).set4 _ _ _ _ _ (by omega) (by omega)
          | with_reducible exact k4.alloc _
          | with_reducible exact (k4.alloc _).alloc _
  case rest =>
    clear hV hR hA hlt harr1 harr2 harr3
    obtain ⟨F, k, s, rfl, hF0, hF, hR, hst, k0, k1, s0, s1⟩ := hcut
    obtain ⟨f0, f1, f2, f3, f4, f5, f6, f7⟩ := row4f hF
    go_upto_block 0 with fail
    go_cut [3] (fun s3 wx => s3 = .pointer (some ⟨F, 0, none⟩) ∧ ∃ (k s : Int) (l : Bool) (bd : ByteArray), wx.heap[F]? = some (.cells #[.int .i64 k, .bool l, .int .i64 s, .string bd] 24 (0, 0)) ∧ wx.heap[w.heap.size]? = some (.cells #[.int .i64 0, .bool false, .int .i64 0, .string ⟨#[]⟩] 24 (0, 0)) ∧ St2 w0 wx b (N + 100) ∧ bd.size ≤ 20)
    case first =>
      by_cases hk : k = 0 ∨ k = 1
      · rcases hk with rfl | rfl
        all_goals
          go_wp2_with (first | (go_at_call 24; refine (pick_st2 b (N + 2) 2 _ _ hst.self (by omega) (by decide)).mono ?_; rintro e v1 ⟨x, rfl, x0, x1, j1, _⟩; have st1 := hst.step j1; have hF1 := j1.blk hF (by omega); have hR1 := j1.blk hR (by omega); obtain ⟨g0, g1, g2, g3, g4, g5, g6, g7⟩ := row4f hF1) | (go_at_call 29; refine (l71Word_2 b (N + 2 + 1) _ _ (st1.set ⟨F, 1, none⟩ (.bool (x == 0)) (by show w0.heap.size ≤ F; omega) (by show b < F; omega)).self (by omega)).mono ?_; rintro e v2 ⟨t, rfl, ht, j2⟩; have st2 := (st1.set ⟨F, 1, none⟩ (.bool (x == 0)) (by show w0.heap.size ≤ F; omega) (by show b < F; omega)).step j2; have hF2 := j2.blk (setF1 (.bool (x == 0)) hF1) (by omega); have hR2 := j2.blk (setFo (o := 1) (.bool (x == 0)) hR1 (show w.heap.size ≠ F by omega)) (by omega); obtain ⟨q0, q1, q2, q3, q4, q5, q6, q7⟩ := row4f hF2))
          go_meet
          exact ⟨rfl, _, _, _, _, setF3 (.string t) hF2, setFo (.string t) hR2 (show w.heap.size ≠ F by omega), (st2.set ⟨F, 3, none⟩ _ (by show w0.heap.size ≤ F; omega) (by show b < F; omega)).more2 (by omega), ht⟩
      · by_cases h8 : k = 8
        · subst h8
          go_upto_region 9 with (first | (go_at_call 24; refine (pick_st2 b (N + 2) 31 _ _ hst.self (by omega) (by decide)).mono ?_; rintro e v1 ⟨x, rfl, x0, x1, j1, _⟩; have st1 := hst.step j1; have hF1 := j1.blk hF (by omega); have hR1 := j1.blk hR (by omega)) | (go_at_call 25; refine (l1Byte_any (1 + x) _ (by omega) (by omega)).mono ?_; rintro e v2 ⟨rfl, hb2⟩; have st2 := st1.grow hb2; have hF2 := (hb2.block _ (Array.getElem?_eq_some_iff.1 hF1).1).trans hF1; have hR2 := (hb2.block _ (Array.getElem?_eq_some_iff.1 hR1).1).trans hR1; obtain ⟨g0, g1, g2, g3, g4, g5, g6, g7⟩ := row4f hF2))
          refine wabsG (fun U => ∃ bd : ByteArray, U.heap[F]? = some (.cells #[.int .i64 8, .bool false, .int .i64 s, .string bd] 24 (0, 0)) ∧ U.heap[w.heap.size]? = some (.cells #[.int .i64 0, .bool false, .int .i64 0, .string ⟨#[]⟩] 24 (0, 0)) ∧ St2 w0 U b (N + 3) ∧ bd.size ≤ 20) ⟨_, setF3 (.string (strOfNums [1 + x])) hF2, setFo (.string (strOfNums [1 + x])) hR2 (show w.heap.size ≠ F by omega), (st2.set ⟨F, 3, none⟩ _ (by show w0.heap.size ≤ F; omega) (by show b < F; omega)).more2 (by omega), by rw [strOfNums_size]; show 1 ≤ 20; omega⟩ ?_
          clear hF hR hst hF1 hR1 st1 hF2 hR2 st2 j1 f0 f1 f2 f3 f4 f5 f6 f7 g0 g1 g2 g3 g4 g5 g6 g7
          rintro V9 ⟨bd, hF, hR, hst, hbd⟩
          have hA9 : St2 w0 V9.drew b (N + 3) := hst.grow ((Below.refl _ _).drew)
          have hFd : V9.drew.heap[F]? = some (.cells #[.int .i64 8, .bool false, .int .i64 s, .string bd] 24 (0, 0)) := hF
          have hRd : V9.drew.heap[w.heap.size]? = some (.cells #[.int .i64 0, .bool false, .int .i64 0, .string ⟨#[]⟩] 24 (0, 0)) := hR
          obtain ⟨f0, f1, f2, f3, f4, f5, f6, f7⟩ := row4f hF
          obtain ⟨g0, g1, g2, g3, g4, g5, g6, g7⟩ := row4f hFd
          go_region_law ((go_simp; refine (pick_st2 b (N + 3) 2 _ _ hA9.self (by omega) (by decide)).mono ?_; rintro e v3 ⟨y, rfl, y0, y1, j3, _⟩; have st3 := hA9.step j3; have hF3 := j3.blk hFd (by omega); have hR3 := j3.blk hRd (by omega); obtain ⟨q0, q1, q2, q3, q4, q5, q6, q7⟩ := row4f hF3; have hy : y = 0 ∨ y = 1 := (by omega); have hm0 : 0 ≤ s * y ∧ s * y ≤ 7 := (by rcases hy with rfl | rfl <;> omega); have hwm : IntKind.i64.wrap (s * y) = s * y := (by rw [IntKind.wrap_i64]; omega)))
          all_goals
            go_wp2_with fail
            go_meet
            exact ⟨rfl, _, _, _, _, setF2 (.int .i64 (s * y)) hF3, setFo (.int .i64 (s * y)) hR3 (show w.heap.size ≠ F by omega), (st3.set ⟨F, 2, none⟩ _ (by show w0.heap.size ≤ F; omega) (by show b < F; omega)).more2 (by omega), hbd⟩
        · have e0 : (k == 0) = false := by simp; omega
          have e1 : (k == 1) = false := by simp; omega
          have e8 : (k == 8) = false := by simp; omega
          go_wp2_with fail
          go_meet
          exact ⟨rfl, _, _, _, _, hF, hR, hst.more2 (by omega), by decide⟩
    case rest =>
      obtain ⟨rfl, hcut⟩ := hcut
      clear hF hR hst f0 f1 f2 f3 f4 f5 f6 f7 k0 k1 s0 s1
      go_upto_region 10 with fail
      refine wabsG (fun U => ∃ (k s : Int) (l : Bool) (bd : ByteArray), U.heap[F]? = some (.cells #[.int .i64 k, .bool l, .int .i64 s, .string bd] 24 (0, 0)) ∧ U.heap[w.heap.size]? = some (.cells #[.int .i64 0, .bool false, .int .i64 0, .string ⟨#[]⟩] 24 (0, 0)) ∧ St2 w0 U b (N + 100) ∧ bd.size ≤ 20) hcut ?_
      clear hcut
      rintro U ⟨k2, s2, l2, bd, hF, hR, hst, hbd⟩
      go_wp2_with fail
      refine (pick_st2 b (N + 100) 24 _ _ hst.self (by omega) (by decide)).mono ?_
      rintro e u1 ⟨x, rfl, x0, x1, j1, _⟩
      have st1 := hst.step j1
      have hF1 := j1.blk hF (by omega)
      have hR1 := j1.blk hR (by omega)
      clear hst hF hR j1
      obtain ⟨f0, f1, f2, f3, f4, f5, f6, f7⟩ := row4f hF1
      obtain ⟨r0, r1, r2, r3, r4, r5, r6, r7⟩ := row4f hR1
      by_cases e0 : (x == 0) = true
      · go_wp2_with (go_at_call 24; refine (pick_st2 b (N + 100 + 1) 10 _ _ st1.self (by omega) (by decide)).mono ?_; rintro e u2 ⟨y, rfl, y0, y1, j2, _⟩; have st2 := st1.step j2; have hF2 := j2.blk hF1 (by omega); have hR2 := j2.blk hR1 (by omega); obtain ⟨g0, g1, g2, g3, g4, g5, g6, g7⟩ := row4f hF2; obtain ⟨q0, q1, q2, q3, q4, q5, q6, q7⟩ := row4f (setFo (o := 0) (.int .i64 y) hR2 (show w.heap.size ≠ F by omega)); obtain ⟨c0, c1, c2, c3, c4, c5, c6, c7⟩ := row4f (setF0 (.int .i64 y) hF2))
        exact bodyPost_ret (results_c1F rfl _ _ w.heap.size #[.int .i64 y, .bool l2, .int .i64 s2, .string bd] rfl (load_fr (set4_heap _ _ _ _ (setFo _ hR2 (show w.heap.size ≠ F by omega))))) rfl ⟨⟨y, l2, s2, bd⟩, rfl, by show bd.size ≤ 300; omega, ((st2.set ⟨F, 0, none⟩ _ (by show w0.heap.size ≤ F; omega) (by show b < F; omega)).set4 _ _ _ _ _ (by omega) (by omega)).more2 (by omega)⟩
      · have e0' : (x == 0) = false := by simpa using e0
        clear e0
        by_cases e1 : (x == 1) = true
        · go_wp2_with (go_at_call 24; refine (pick_st2 b (N + 100 + 1) 10 _ _ st1.self (by omega) (by decide)).mono ?_; rintro e u2 ⟨y, rfl, y0, y1, j2, _⟩; have st2 := st1.step j2; have hF2 := j2.blk hF1 (by omega); have hR2 := j2.blk hR1 (by omega); obtain ⟨g0, g1, g2, g3, g4, g5, g6, g7⟩ := row4f hF2; obtain ⟨q0, q1, q2, q3, q4, q5, q6, q7⟩ := row4f (setFo (o := 2) (.int .i64 y) hR2 (show w.heap.size ≠ F by omega)); obtain ⟨c0, c1, c2, c3, c4, c5, c6, c7⟩ := row4f (setF2 (.int .i64 y) hF2))
          exact bodyPost_ret (results_c1F rfl _ _ w.heap.size #[.int .i64 k2, .bool l2, .int .i64 y, .string bd] rfl (load_fr (set4_heap _ _ _ _ (setFo _ hR2 (show w.heap.size ≠ F by omega))))) rfl ⟨⟨k2, l2, y, bd⟩, rfl, by show bd.size ≤ 300; omega, ((st2.set ⟨F, 2, none⟩ _ (by show w0.heap.size ≤ F; omega) (by show b < F; omega)).set4 _ _ _ _ _ (by omega) (by omega)).more2 (by omega)⟩
        · have e1' : (x == 1) = false := by simpa using e1
          clear e1
          by_cases e2 : (x == 2) = true
          · go_wp2_with (first | (go_at_call 24; refine (pick_st2 b (N + 100 + 1) 10 _ _ st1.self (by omega) (by decide)).mono ?_; rintro e u2 ⟨y, rfl, y0, y1, j2, _⟩; have st2 := st1.step j2; have hF2 := j2.blk hF1 (by omega); have hR2 := j2.blk hR1 (by omega); have hmany := l6Many_any ⟨#[120]⟩ (195 + y.toNat) u2 (by omega) (by decide); rw [show ((195 + y.toNat : Nat) : Int) = 195 + y by omega] at hmany) | (go_at_call 30; refine hmany.mono ?_; clear hmany; rintro e u3 ⟨tt, rfl, htt, rfl⟩; obtain ⟨g0, g1, g2, g3, g4, g5, g6, g7⟩ := row4f hF2; obtain ⟨q0, q1, q2, q3, q4, q5, q6, q7⟩ := row4f (setFo (o := 3) (.string tt) hR2 (show w.heap.size ≠ F by omega)); obtain ⟨c0, c1, c2, c3, c4, c5, c6, c7⟩ := row4f (setF3 (.string tt) hF2)))
            have htt2 : tt.size ≤ 300 := by have h1 : (⟨#[120]⟩ : ByteArray).size = 1 := rfl; rw [h1] at htt; omega
            exact bodyPost_ret (results_c1F rfl _ _ w.heap.size #[.int .i64 k2, .bool l2, .int .i64 s2, .string tt] rfl (load_fr (set4_heap _ _ _ _ (setFo _ hR2 (show w.heap.size ≠ F by omega))))) rfl ⟨⟨k2, l2, s2, tt⟩, rfl, htt2, ((st2.set ⟨F, 3, none⟩ _ (by show w0.heap.size ≤ F; omega) (by show b < F; omega)).set4 _ _ _ _ _ (by omega) (by omega)).more2 (by omega)⟩
          · have e2' : (x == 2) = false := by simpa using e2
            clear e2
            go_wp2
            exact bodyPost_ret (results_c1F rfl _ _ w.heap.size #[.int .i64 k2, .bool l2, .int .i64 s2, .string bd] rfl (load_fr (set4_heap _ _ _ _ hR1))) rfl ⟨⟨k2, l2, s2, bd⟩, rfl, by show bd.size ≤ 300; omega, ((st1).set4 _ _ _ _ _ (by omega) (by omega)).more2 (by omega)⟩
end Go.Proofs.YtmegdgkpdonikaaDoor
