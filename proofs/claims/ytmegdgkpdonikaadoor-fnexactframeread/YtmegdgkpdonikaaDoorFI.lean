import Derived.Test.YtmegdgkpdonikaaDoorFI7
import Derived.Test.YtmegdgkpdonikaaDoorBB
namespace Go.Proofs.YtmegdgkpdonikaaDoor
open Go.RowKit
set_option linter.unusedVariables false

theorem setRow_heapF {w : World} {g : Nat} {t : TypeId} {old : Array Value} {fr : Nat × Nat} (cs : Array Value) (h : w.heap[g]? = some (.cells old t fr)) : (w.setRow g cs).heap[g]? = some (.cells cs t fr) := setRow_heap _ _ _ _ _ _ h
theorem setRow_otherF {w : World} {g B : Nat} {o : Obj} (cs : Array Value) (h : w.heap[B]? = some o) (hne : B ≠ g) : (w.setRow g cs).heap[B]? = some o :=
  ((grown_setRowT w g cs).block B (Array.getElem?_eq_some_iff.1 h).1 (fun e => hne (by injection e))).trans h
theorem bel_setRowF {w0 w : World} {B g : Nat} (cs : Array Value) (h : Below B w0 w) (hB : B ≤ w.heap.size) (hg : B ≤ g) : Below B w0 (w.setRow g cs) :=
  h.grown (grown_setRowT w g cs) hB (fun q hq => by injection hq with hq; omega)

theorem setsF {W : World} {B R : Nat} {a b c d a' b' c' d' : Value} {t t' : TypeId} (hX : W.heap[R]? = some (.cells #[a', b', c', d'] t' (0, 0))) (h : W.heap[B]? = some (.cells #[a, b, c, d] t (0, 0))) (hne : R ≠ B) (x y z u : Value) :
    ((((W.setCell ⟨B, 0, none⟩ x).setCell ⟨B, 1, none⟩ y).setCell ⟨B, 2, none⟩ z).setCell ⟨B, 3, none⟩ u).cell? ⟨R, 0, none⟩ = some a' ∧ ((((W.setCell ⟨B, 0, none⟩ x).setCell ⟨B, 1, none⟩ y).setCell ⟨B, 2, none⟩ z).setCell ⟨B, 3, none⟩ u).cell? ⟨R, 1, none⟩ = some b' ∧ ((((W.setCell ⟨B, 0, none⟩ x).setCell ⟨B, 1, none⟩ y).setCell ⟨B, 2, none⟩ z).setCell ⟨B, 3, none⟩ u).cell? ⟨R, 2, none⟩ = some c' ∧ ((((W.setCell ⟨B, 0, none⟩ x).setCell ⟨B, 1, none⟩ y).setCell ⟨B, 2, none⟩ z).setCell ⟨B, 3, none⟩ u).cell? ⟨R, 3, none⟩ = some d' := by
  have k := fun (W : World) (p : Addr) (v : Value) (hp : R ≠ p.block) => Below.heap_setCell W p v R hp
  have e : ((((W.setCell ⟨B, 0, none⟩ x).setCell ⟨B, 1, none⟩ y).setCell ⟨B, 2, none⟩ z).setCell ⟨B, 3, none⟩ u).heap[R]? = some (.cells #[a', b', c', d'] t' (0, 0)) := by
    rw [k _ ⟨B, 3, none⟩ _ hne, k _ ⟨B, 2, none⟩ _ hne, k _ ⟨B, 1, none⟩ _ hne, k _ ⟨B, 0, none⟩ _ hne, hX]
  exact (row4h e).1
set_option maxRecDepth 100000 in
set_option maxHeartbeats 4000000 in
theorem implFrameRead (s : ByteArray) (w : World) (hG0 : GL w) (hs : s.size ≤ maxLen) :
    Calls Tryd.prog 12 #[.string s] w fun e w' => e = .returned (.tuple #[(frRd s).1.val, .int .i64 (frRd s).2.1, .int .i64 (frRd s).2.2]) ∧ Below w.heap.size w w' := by
  have hB : Below w.heap.size w (w.alloc (.cells #[.int .i64 0, .bool false, .int .i64 0, .string ⟨#[]⟩] 24)) := (Below.refl _ _).alloc (Nat.le_refl _) _
  have hR : (w.alloc (.cells #[.int .i64 0, .bool false, .int .i64 0, .string ⟨#[]⟩] 24)).heap[w.heap.size]? = some (.cells #[.int .i64 0, .bool false, .int .i64 0, .string ⟨#[]⟩] 24 (0, 0)) := heap_alloc_last w _
  have hG := hG0.below hB
  obtain ⟨a, ha⟩ := hG.cut
  have hff := frameFirst_any s _ a ha hs
  unfold FFAns at hff
  obtain ⟨X, hXX⟩ : ∃ X, frRd s = X := ⟨_, rfl⟩
  simp only [hXX] at hff ⊢
  clear hG0 ha hXX
  go_enter Tryd.func12, Tryd.ntmps12
  go_wp2_with fail
  refine hff.mono ?_
  clear hff
  rintro e w1 ⟨hF, hb⟩
  have hlt1 : w.heap.size < w1.heap.size := hltF hb
  replace hR := (hb.block _ (Array.getElem?_eq_some_iff.1 hR).1).trans hR
  replace hG := hG.below hb
  replace hB := btF hB hb
  clear hb
  rcases hF with ⟨f, rfl, hz, rfl⟩ | ⟨rfl, rfl⟩ | ⟨rfl, why, rfl⟩
  · skip
    obtain ⟨k, l, sm, b⟩ := f
    unfold Fr.val
    dsimp only at hz ⊢
    have hA : Below w1.heap.size w1 (w1.alloc (.cells #[.int .i64 k, .bool l, .int .i64 sm, .string b] 24)) := (Below.refl _ _).alloc (Nat.le_refl _) _
    have hX : (w1.alloc (.cells #[.int .i64 k, .bool l, .int .i64 sm, .string b] 24)).heap[w1.heap.size]? = some (.cells #[.int .i64 k, .bool l, .int .i64 sm, .string b] 24 (0, 0)) := heap_alloc_last w1 _
    replace hR := (hA.block _ (Array.getElem?_eq_some_iff.1 hR).1).trans hR
    replace hG := hG.below hA
    replace hB := btF hB hA
    have hA2 : Below (w1.alloc (.cells #[.int .i64 k, .bool l, .int .i64 sm, .string b] 24)).heap.size (w1.alloc (.cells #[.int .i64 k, .bool l, .int .i64 sm, .string b] 24)) ((w1.alloc (.cells #[.int .i64 k, .bool l, .int .i64 sm, .string b] 24)).alloc (.cells #[.string ⟨#[]⟩] 43)) := (Below.refl _ _).alloc (Nat.le_refl _) _
    have hN : ((w1.alloc (.cells #[.int .i64 k, .bool l, .int .i64 sm, .string b] 24)).alloc (.cells #[.string ⟨#[]⟩] 43)).heap[w1.heap.size + 1]? = some (.cells #[.string ⟨#[]⟩] 43 (0, 0)) := by
      have h := heap_alloc_last (w1.alloc (.cells #[.int .i64 k, .bool l, .int .i64 sm, .string b] 24)) (.cells #[.string ⟨#[]⟩] 43)
      rw [World.size_alloc] at h
      exact h
    replace hR := (hA2.block _ (Array.getElem?_eq_some_iff.1 hR).1).trans hR
    replace hX := (hA2.block _ (Array.getElem?_eq_some_iff.1 hX).1).trans hX
    replace hG := hG.below hA2
    replace hB := btF hB hA2
    have hsz : w.heap.size < w1.heap.size := hlt1
    clear hA hA2
    go_upto_region 3 with fail
    obtain ⟨R, hRR⟩ : ∃ R, w1.heap.size = R := ⟨_, rfl⟩
    rw [hRR] at hX hN hsz ⊢
    refine wabsH (fun V => V.heap[w.heap.size]? = some (.cells #[.int .i64 0, .bool false, .int .i64 0, .string ⟨#[]⟩] 24 (0, 0)) ∧ V.heap[R]? = some (.cells #[.int .i64 k, .bool l, .int .i64 sm, .string b] 24 (0, 0)) ∧ V.heap[R + 1]? = some (.cells #[.string ⟨#[]⟩] 43 (0, 0)) ∧ GL V ∧ Below w.heap.size w V) ⟨hR, hX, hN, hG, hB⟩ ?_
    clear hR hX hN hG hB hRR hlt1
    rintro V ⟨hR, hX, hN, hG, hB⟩
    have HR : Hid _ := hR
    have HX : Hid _ := hX
    have HN : Hid _ := hN
    clear hR hX hN
    go_wp2_with fail
    refine (as_nil _ _).mono ?_
    rintro e w2 ⟨rfl, rfl⟩
    have f0 := (row4h HR.out).2
    have r0 := (row4h HR.out).1
    have r1 := (row4h HX.out).1
    have r2 := fun x y z u => setsF (R := R) HX.out HR.out (by omega) x y z u
    go_wp2
    go_region
    all_goals
      go_wp2
      exact bodyPost_ret (results_c2F rfl _ _ w.heap.size #[.int .i64 k, .bool l, .int .i64 sm, .string b] rfl (load_fr (set4_heap _ _ _ _ HR.out))) rfl ⟨rfl, (bel4 hB (Nat.le_refl _) _ _ _ _).drew⟩
  · unfold Fr.val zFr
    dsimp only
    have hA : Below w1.heap.size w1 (w1.alloc (.cells #[.int .i64 0, .bool false, .int .i64 0, .string ⟨#[]⟩] 24)) := (Below.refl _ _).alloc (Nat.le_refl _) _
    have hX : (w1.alloc (.cells #[.int .i64 0, .bool false, .int .i64 0, .string ⟨#[]⟩] 24)).heap[w1.heap.size]? = some (.cells #[.int .i64 0, .bool false, .int .i64 0, .string ⟨#[]⟩] 24 (0, 0)) := heap_alloc_last w1 _
    replace hR := (hA.block _ (Array.getElem?_eq_some_iff.1 hR).1).trans hR
    replace hG := hG.below hA
    replace hB := btF hB hA
    have hA2 : Below (w1.alloc (.cells #[.int .i64 0, .bool false, .int .i64 0, .string ⟨#[]⟩] 24)).heap.size (w1.alloc (.cells #[.int .i64 0, .bool false, .int .i64 0, .string ⟨#[]⟩] 24)) ((w1.alloc (.cells #[.int .i64 0, .bool false, .int .i64 0, .string ⟨#[]⟩] 24)).alloc (.cells #[.string ⟨#[]⟩] 43)) := (Below.refl _ _).alloc (Nat.le_refl _) _
    have hN : ((w1.alloc (.cells #[.int .i64 0, .bool false, .int .i64 0, .string ⟨#[]⟩] 24)).alloc (.cells #[.string ⟨#[]⟩] 43)).heap[w1.heap.size + 1]? = some (.cells #[.string ⟨#[]⟩] 43 (0, 0)) := by
      have h := heap_alloc_last (w1.alloc (.cells #[.int .i64 0, .bool false, .int .i64 0, .string ⟨#[]⟩] 24)) (.cells #[.string ⟨#[]⟩] 43)
      rw [World.size_alloc] at h
      exact h
    replace hR := (hA2.block _ (Array.getElem?_eq_some_iff.1 hR).1).trans hR
    replace hX := (hA2.block _ (Array.getElem?_eq_some_iff.1 hX).1).trans hX
    replace hG := hG.below hA2
    replace hB := btF hB hA2
    have hsz : w.heap.size < w1.heap.size := hlt1
    clear hA hA2
    go_upto_region 3 with fail
    obtain ⟨R, hRR⟩ : ∃ R, w1.heap.size = R := ⟨_, rfl⟩
    rw [hRR] at hX hN hsz ⊢
    refine wabsH (fun V => V.heap[w.heap.size]? = some (.cells #[.int .i64 0, .bool false, .int .i64 0, .string ⟨#[]⟩] 24 (0, 0)) ∧ V.heap[R]? = some (.cells #[.int .i64 0, .bool false, .int .i64 0, .string ⟨#[]⟩] 24 (0, 0)) ∧ V.heap[R + 1]? = some (.cells #[.string ⟨#[]⟩] 43 (0, 0)) ∧ GL V ∧ Below w.heap.size w V) ⟨hR, hX, hN, hG, hB⟩ ?_
    clear hR hX hN hG hB hRR hlt1
    rintro V ⟨hR, hX, hN, hG, hB⟩
    have HR : Hid _ := hR
    have HX : Hid _ := hX
    have HN : Hid _ := hN
    clear hR hX hN
    go_wp2_with fail
    refine (as_miss _ (R + 1) _ hG.he (Array.getElem?_eq_some_iff.1 HN.out).1).mono ?_
    rintro e w2 ⟨rfl, hb⟩
    have hR := (hb.block _ (Array.getElem?_eq_some_iff.1 HR.out).1).trans HR.out
    replace hB := btF hB hb
    have HR2 : Hid _ := hR
    clear hR HR hb
    have f0 := (row4h HR2.out).2
    have r0 := (row4h HR2.out).1
    go_wp2
    exact bodyPost_ret (results_c2F rfl _ _ w.heap.size #[.int .i64 0, .bool false, .int .i64 0, .string ⟨#[]⟩] rfl (load_fr (set4_heap _ _ _ _ HR2.out))) rfl ⟨rfl, bel4 hB (Nat.le_refl _) _ _ _ _⟩
  · unfold Fr.val zFr
    dsimp only
    have hA : Below w1.heap.size w1 (w1.alloc (.cells #[.int .i64 0, .bool false, .int .i64 0, .string ⟨#[]⟩] 24)) := (Below.refl _ _).alloc (Nat.le_refl _) _
    have hX : (w1.alloc (.cells #[.int .i64 0, .bool false, .int .i64 0, .string ⟨#[]⟩] 24)).heap[w1.heap.size]? = some (.cells #[.int .i64 0, .bool false, .int .i64 0, .string ⟨#[]⟩] 24 (0, 0)) := heap_alloc_last w1 _
    replace hR := (hA.block _ (Array.getElem?_eq_some_iff.1 hR).1).trans hR
    replace hG := hG.below hA
    replace hB := btF hB hA
    have hA2 : Below (w1.alloc (.cells #[.int .i64 0, .bool false, .int .i64 0, .string ⟨#[]⟩] 24)).heap.size (w1.alloc (.cells #[.int .i64 0, .bool false, .int .i64 0, .string ⟨#[]⟩] 24)) ((w1.alloc (.cells #[.int .i64 0, .bool false, .int .i64 0, .string ⟨#[]⟩] 24)).alloc (.cells #[.string ⟨#[]⟩] 43)) := (Below.refl _ _).alloc (Nat.le_refl _) _
    have hN : ((w1.alloc (.cells #[.int .i64 0, .bool false, .int .i64 0, .string ⟨#[]⟩] 24)).alloc (.cells #[.string ⟨#[]⟩] 43)).heap[w1.heap.size + 1]? = some (.cells #[.string ⟨#[]⟩] 43 (0, 0)) := by
      have h := heap_alloc_last (w1.alloc (.cells #[.int .i64 0, .bool false, .int .i64 0, .string ⟨#[]⟩] 24)) (.cells #[.string ⟨#[]⟩] 43)
      rw [World.size_alloc] at h
      exact h
    replace hR := (hA2.block _ (Array.getElem?_eq_some_iff.1 hR).1).trans hR
    replace hX := (hA2.block _ (Array.getElem?_eq_some_iff.1 hX).1).trans hX
    replace hG := hG.below hA2
    replace hB := btF hB hA2
    have hsz : w.heap.size < w1.heap.size := hlt1
    clear hA hA2
    go_upto_region 3 with fail
    obtain ⟨R, hRR⟩ : ∃ R, w1.heap.size = R := ⟨_, rfl⟩
    rw [hRR] at hX hN hsz ⊢
    refine wabsH (fun V => V.heap[w.heap.size]? = some (.cells #[.int .i64 0, .bool false, .int .i64 0, .string ⟨#[]⟩] 24 (0, 0)) ∧ V.heap[R]? = some (.cells #[.int .i64 0, .bool false, .int .i64 0, .string ⟨#[]⟩] 24 (0, 0)) ∧ V.heap[R + 1]? = some (.cells #[.string ⟨#[]⟩] 43 (0, 0)) ∧ GL V ∧ Below w.heap.size w V) ⟨hR, hX, hN, hG, hB⟩ ?_
    clear hR hX hN hG hB hRR hlt1
    rintro V ⟨hR, hX, hN, hG, hB⟩
    have HR : Hid _ := hR
    have HX : Hid _ := hX
    have HN : Hid _ := hN
    clear hR hX hN
    go_wp2_with fail
    refine (as_hit why _ (R + 1) _ hG.he HN.out).mono ?_
    rintro e w2 ⟨rfl, W, hb, rfl⟩
    have hR := setRow_otherF (g := R + 1) #[.string why] ((hb.block _ (Array.getElem?_eq_some_iff.1 HR.out).1).trans HR.out) (by omega)
    replace hB := bel_setRowF (g := R + 1) #[.string why] (btF hB hb) (by have := hB.size; have := hb.size; omega) (by omega)
    clear HR hb HX HN hG
    generalize W.setRow (R + 1) #[.string why] = V at hR hB ⊢
    have HR : Hid _ := hR
    clear hR
    have f0 := (row4h HR.out).2
    have r0 := (row4h HR.out).1
    go_wp2
    exact bodyPost_ret (results_c2F rfl _ _ w.heap.size #[.int .i64 0, .bool false, .int .i64 0, .string ⟨#[]⟩] rfl (load_fr (set4_heap _ _ _ _ HR.out))) rfl ⟨rfl, bel4 hB (Nat.le_refl _) _ _ _ _⟩
end Go.Proofs.YtmegdgkpdonikaaDoor
