import Derived.Test.YtadidkkpokpocabImpG
namespace Go.Proofs.Ytadidkkpokpocab
open Go.RowKit Go.Shelf
set_option linter.unusedVariables false
attribute [local go_sem] Oper.semAt_some

set_option maxHeartbeats 400000 in
theorem wordBits_any (a : Option Addr) (n cap : Nat) (w : World) :
    Calls Try.prog 39 #[.slice a n cap] w fun e w' => e = .returned (.func (.func 48) #[] #[.pointer (some ⟨w.heap.size, 0, none⟩)]) ∧ w' = w.alloc (.cells #[.slice a n cap] 52) := by
  go_enter Try.func39, Try.ntmps39
  go_wp2
  go_ret
  exact ⟨rfl, rfl⟩

theorem bits_stops (Bn n cap B1 B2 base : Nat) (a : Option Addr) (cs : List (Int × Int)) (hbd : ∀ c ∈ cs, 0 ≤ c.1 ∧ c.1 ≤ 255 ∧ 0 ≤ c.2 ∧ c.2 ≤ 8) (hn : cs.length = n) (hn16 : n ≤ 17) (w : World)
    (hBn : w.heap[Bn]? = some (.cells #[.slice a n cap] 52 (0, 0))) (hB1 : B1 < w.heap.size) (hB2 : B2 < w.heap.size) (hg1 : some B1 ≠ (Value.slice a n cap).ownBlock) (hg2 : some B2 ≠ (Value.slice a n cap).ownBlock)
    (hrow : w.ownsRow base 55 2 (.slice a n cap) n (cellsC cs)) :
    SeqStopsK Fence.wide 5 Try.prog 48 #[.pointer (some ⟨Bn, 0, none⟩)] (fun x : Bit => #[Value.int .i64 x.1]) (KeepC B1 B2) (fun ys => ys = codesQ cs) (fun pre => pre <+: codesQ cs) (codesQ cs).length w := fun l J Jx W hW hJ _ hY h0 =>
  bits1_in l Bn n cap B1 B2 base a cs hbd hn hn16 J Jx W hJ hY ((hW.block Bn (blk_lt hBn)).trans hBn) (Nat.lt_of_lt_of_le hB1 hW.size) (Nat.lt_of_lt_of_le hB2 hW.size) hg1 hg2 (own_below' hrow hW) h0

theorem KeepC.refl (B1 B2 : Nat) (W : World) : KeepC B1 B2 W W := ⟨Nat.le_refl _, fun _ _ _ h _ _ _ => h⟩
theorem keepC_b {B1 B2 : Nat} {w : World} (W : World) (l : Nat) (o o' : Obj) (hl : w.heap.size ≤ l) (h : W.heap[l]? = some o) (ho : o.isCells = false) (hw : o.isWalk = false) : KeepC B1 B2 W (W.putObj l o') := by
  refine ⟨(grownBy_putObj' W l o').size, fun b cs t hb _ _ _ => ?_⟩
  have hne : b ≠ l := by intro e; subst e; rw [hb] at h; cases h; cases ho
  rw [World.putObj_heap_other hne]
  exact hb
theorem KeepC.of_below {B1 B2 : Nat} {W W' : World} (h : Below W.heap.size W W') : KeepC B1 B2 W W' :=
  ⟨h.size, fun b cs t hb _ _ _ => (h.block b (blk_lt hb)).trans hb⟩
theorem KeepC.set1 {B1 B2 : Nat} (W : World) (o : Nat) (v : Value) : KeepC B1 B2 W (W.setCell ⟨B1, o, none⟩ v) :=
  ⟨(KeepsWalks.setCell W _ v).size, fun b cs t hb h1 _ _ => (Below.heap_setCell W ⟨B1, o, none⟩ v b (fun e => h1 e)).trans hb⟩
theorem KeepC.set2 {B1 B2 : Nat} (W : World) (o : Nat) (v : Value) : KeepC B1 B2 W (W.setCell ⟨B2, o, none⟩ v) :=
  ⟨(KeepsWalks.setCell W _ v).size, fun b cs t hb _ h2 _ => (Below.heap_setCell W ⟨B2, o, none⟩ v b (fun e => h2 e)).trans hb⟩
theorem KeepC.app {B1 B2 : Nat} {W w3 : World} {tmp : Obj} {base size k : Nat} {v : Value} {xs : List Value} (hr : W.ownsRow base 5 size v k xs) (hgrow : (W.alloc tmp).grownBy w3 v.ownBlock) : KeepC B1 B2 W w3 :=
  ⟨Nat.le_trans (by simp) hgrow.size, fun b cs t hb _ _ h3 => kept_app hb h3 hr hgrow⟩
theorem keepsOthers_of_below {W W' : World} (h : Below W.heap.size W W') : KeepsOthers W W' :=
  ⟨h.size, fun k o hk _ => (h.block k (blk_lt hk)).trans hk⟩

/-- A code's box. -/
def Box2 (W : World) (B : Nat) (x y : Int) : Prop := W.heap[B]? = some (.cells #[.int .i64 x, .int .i64 y] 55 (0, 0))
theorem Box2.cell0 {W : World} {B : Nat} {x y : Int} (h : Box2 W B x y) : W.cell? ⟨B, 0, none⟩ = some (.int .i64 x) := cell_of_row W B 0 _ _ _ h
theorem Box2.cell1 {W : World} {B : Nat} {x y : Int} (h : Box2 W B x y) : W.cell? ⟨B, 1, none⟩ = some (.int .i64 y) := cell_of_row W B 1 _ _ _ h
theorem Box2.frozen0 {W : World} {B : Nat} {x y : Int} (h : Box2 W B x y) : W.frozen? ⟨B, 0, none⟩ = false := by simp [World.frozen?, show W.heap[B]? = _ from h]
theorem Box2.frozen1 {W : World} {B : Nat} {x y : Int} (h : Box2 W B x y) : W.frozen? ⟨B, 1, none⟩ = false := by simp [World.frozen?, show W.heap[B]? = _ from h]
theorem Box2.set {W : World} {B : Nat} {x y : Int} (x' y' : Int) (h : Box2 W B x y) : Box2 ((W.setCell ⟨B, 0, none⟩ (.int .i64 x')).setCell ⟨B, 1, none⟩ (.int .i64 y')) B x' y' := by
  have key : ∀ (W : World) (a b : Value) (o : Nat) (v : Value), W.heap[B]? = some (.cells #[a, b] 55 (0, 0)) → (W.setCell ⟨B, o, none⟩ v).heap[B]? = some (.cells (#[a, b].setIfInBounds o v) 55 (0, 0)) := by
    intro W a b o v h
    obtain ⟨hlt, hk⟩ := Array.getElem?_eq_some_iff.1 h
    show (W.heap.modify B _)[B]? = _
    rw [Array.getElem?_eq_getElem (by rw [Array.size_modify]; exact hlt), Array.getElem_modify_self, hk]
    rfl
  have h1 := key W _ _ 0 (.int .i64 x') h
  exact key _ _ _ 1 (.int .i64 y') h1
theorem Box2.other {W : World} {B : Nat} {x y : Int} (h : Box2 W B x y) (p : Addr) (v : Value) (hne : B ≠ p.block) : Box2 (W.setCell p v) B x y :=
  (Below.heap_setCell W p v B hne).trans h
theorem Boxed.other2 {W : World} {B : Nat} {t : TypeId} {u : Value} (h : Boxed W B t u) (p : Addr) (v : Value) (hne : B ≠ p.block) : Boxed (W.setCell p v) B t u :=
  (Below.heap_setCell W p v B hne).trans h
theorem own_set {W : World} {base : Nat} {e : TypeId} {size : Nat} {v : Value} {k : Nat} {xs : List Value} (h : W.ownsRow base e size v k xs) (p : Addr) (u : Value) (hne : some p.block ≠ v.ownBlock) : (W.setCell p u).ownsRow base e size v k xs := by
  refine ⟨h.1, ?_⟩
  rcases h.2 with h0 | ⟨g, cap, cur, rfl, h2, h3, h4⟩
  · exact .inl h0
  · refine .inr ⟨g, cap, cur, rfl, h2, ?_, h4⟩
    rw [Below.heap_setCell W p u g (fun e => hne (by rw [← e]; rfl))]
    exact h3
theorem Box2.not_row {W : World} {B : Nat} {x y : Int} (h : Box2 W B x y) {base size k : Nat} {v : Value} {xs : List Value} (hr : W.ownsRow base 5 size v k xs) : some B ≠ v.ownBlock := Go.Proofs.Ytadidkkpokpocab.not_row h (by decide) hr
theorem box2_own {β : Type} (B : Nat) (f g : β → Int) : Own (fun s W => Box2 W B (f s) (g s)) := by
  intro s X Y row h hg hrow
  refine (hg.block B (blk_lt h) ?_).trans h
  intro e
  obtain ⟨o, ho, hc⟩ := hrow B e.symm
  rw [show X.heap[B]? = _ from h] at ho; cases ho; cases hc
end Go.Proofs.Ytadidkkpokpocab
