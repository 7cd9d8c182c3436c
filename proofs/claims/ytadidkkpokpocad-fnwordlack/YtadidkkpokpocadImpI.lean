import Derived.Test.YtadidkkpokpocadImpH
namespace Go.Proofs.Ytadidkkpokpocad
open Go.RowKit Go.Shelf
set_option linter.unusedVariables false

theorem grown_setRow (w : World) (g : Nat) (cs : Array Value) : w.grownBy (w.setRow g cs) (some g) := by
  refine ⟨rfl, rfl, rfl, by simp [World.setRow], fun k _ hk => ?_⟩
  show (w.heap.modify g _)[k]? = _
  rw [Array.getElem?_modify, if_neg (fun e => hk (by rw [e]))]
theorem infoC2 : (Try.prog.info? 48).map (·.size) = some 2 := by kernel_rfl
/-- A code is stored. -/
theorem wpListIn_store2 {F : Fence} {n : Nat} {w : World} {ops : Array Oper} {rest : List Oper} {o : Oper} {a : Act} {Q : Exit → Act → World → Prop}
    (hg : o.guard = none) (x y : Operand) (hop : o.op = Op.store 48 x y) (B : Nat) (p q x' y' : Int) (hx : a.eval x = .pointer (some ⟨B, 0, none⟩)) (hy : a.eval y = .agg #[.int .i64 x', .int .i64 y']) (hb : Box2 w B p q)
    (hK : ∀ w', Box2 w' B x' y' → w.grownBy w' (some B) → wpListIn F n Try.prog ops Q rest (a.put o.dst undef) w') :
    wpListIn F n Try.prog ops Q (o :: rest) a w := by
  refine wpListIn_plain hg fun K hK' => ?_
  have hrun := run_storeVar_row (P := Try.prog) w B 48 48 _ #[.int .i64 x', .int .i64 y'] hb infoC2 rfl (two_all _ _)
  unfold Oper.wpIn
  refine ⟨?_, ?_⟩
  · simp [Oper.about, hop]
  · rw [Oper.semAt_plain F _ _ (by rw [hop]; intro c hc'; cases hc')]
    simp only [execOp, hop, hx, hy, Instr.storeAt, Instr.sureAddr, Sem.run_bind, Sem.run_pure, Result.andThen_ok, hrun]
    exact hK' _ _ (hK _ (setRow_heap _ _ _ _ _ _ hb) (grown_setRow _ _ _))
/-- A code is loaded. -/
theorem wpListIn_load2 {F : Fence} {n : Nat} {w : World} {ops : Array Oper} {rest : List Oper} {o : Oper} {a : Act} {Q : Exit → Act → World → Prop}
    (hg : o.guard = none) (x : Operand) (hop : o.op = Op.load 48 x) (B : Nat) (p q : Int) (hx : a.eval x = .pointer (some ⟨B, 0, none⟩)) (hb : Box2 w B p q)
    (hK : wpListIn F n Try.prog ops Q rest (a.put o.dst (.agg #[.int .i64 p, .int .i64 q])) w) :
    wpListIn F n Try.prog ops Q (o :: rest) a w := by
  refine wpListIn_plain hg fun K hK' => ?_
  have hrun := run_loadVar_row (P := Try.prog) w B 48 48 _ (0, 0) _ hb Try.underlying48 rfl infoC2
  unfold Oper.wpIn
  refine ⟨?_, ?_⟩
  · simp [Oper.about, hop]
  · rw [Oper.semAt_plain F _ _ (by rw [hop]; intro c hc'; cases hc')]
    simp only [execOp, hop, hx, Instr.loadAt, Instr.sureAddr, Sem.run_bind, Sem.run_pure, Result.andThen_ok, hrun]
    exact hK' _ _ hK
theorem Box2.kept {W W' : World} {row : Option Nat} {B : Nat} {x y : Int} (h : Box2 W B x y) (hg : W.grownBy W' row) (hne : some B ≠ row) : Box2 W' B x y := (hg.block B (blk_lt h) hne).trans h
theorem Box2.below {W W' : World} {B : Nat} {x y : Int} (h : Box2 W B x y) (hb : Below W.heap.size W W') : Box2 W' B x y := (hb.block B (blk_lt h)).trans h
theorem boxed_below {W W' : World} {B : Nat} {t : TypeId} {v : Value} (h : Boxed W B t v) (hb : Below W.heap.size W W') : Boxed W' B t v := (hb.block B (blk_lt h)).trans h
theorem KeepC.grown2 {B1 B2 : Nat} {W W' : World} (hg : W.grownBy W' (some B2)) : KeepC B1 B2 W W' :=
  ⟨hg.size, fun b cs t hb _ h2 _ => (hg.block b (blk_lt hb) (fun e => h2 (by injection e))).trans hb⟩
theorem keepsOthers_box2 {W W' : World} {B : Nat} {x y : Int} (h : Box2 W B x y) (hg : W.grownBy W' (some B)) : KeepsOthers W W' :=
  KeepsOthers.of_grownBy hg (fun j o e ho => by injection e with e; subst e; rw [show W.heap[B]? = _ from h] at ho; cases ho; rfl)
theorem below_box2 {n₀ : Nat} {W W' : World} {B : Nat} (hn : n₀ ≤ W.heap.size) (hB : n₀ ≤ B) (hg : W.grownBy W' (some B)) : Below n₀ W W' :=
  (Below.refl n₀ W).grown hg hn (fun k e => by injection e with e; omega)
theorem KeepC.appended {W w1 : World} {B B2 : Nat} {size : Nat} {v v' : Value} {k base : Nat} {xs : List Value} {tmp : Obj} (hrow : W.ownsRow base 5 size v k xs) (hgrow : (W.alloc tmp).grownBy w1 v.ownBlock) : KeepC B B2 W (w1.setCell ⟨B, 0, none⟩ v') :=
  (KeepC.app hrow hgrow).trans (KeepC.set1 _ _ _)
end Go.Proofs.Ytadidkkpokpocad
