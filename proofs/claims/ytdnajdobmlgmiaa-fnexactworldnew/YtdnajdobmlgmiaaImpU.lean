import Derived.Test.YtdnajdobmlgmiaaImpP
import Derived.Test.YtdnajdobmlgmiaaBH
namespace Go.Proofs.Ytdnajdobmlgmiaa
open Go.RowKit Go.Shelf
set_option linter.unusedVariables false
attribute [local go_sem] Oper.semAt_some

/-- The signs are stored. -/
theorem wpListIn_storeS {F : Fence} {n : Nat} {w : World} {ops : Array Oper} {rest : List Oper} {o : Oper} {a : Act} {Q : Exit → Act → World → Prop}
    (hg : o.guard = none) (x y : Operand) (hop : o.op = Op.store 111 x y) (c : Array Value) (hc : c.size = 39) (hx : a.eval x = .pointer (some ⟨w.heap.size, 0, none⟩)) (hy : a.eval y = .agg WSv)
    (hK : wpListIn F n Try.prog ops Q rest (a.put o.dst undef) (w.alloc (.cells WSv 111))) :
    wpListIn F n Try.prog ops Q (o :: rest) a (w.alloc (.cells c 111)) := by
  refine wpListIn_plain hg fun K hK' => ?_
  have hrun := run_storeVar_row (P := Try.prog) (w.alloc (.cells c 111)) w.heap.size 111 111 c WSv (heap_alloc_last w _) info49 (by rw [hc]; rfl) WSv_one
  rw [World.setRow_alloc_new] at hrun
  unfold Oper.wpIn
  refine ⟨?_, ?_⟩
  · simp [Oper.about, hop]
  · rw [Oper.semAt_plain F _ _ (by rw [hop]; intro c hc'; cases hc')]
    simp only [execOp, hop, hx, hy, Instr.storeAt, Instr.sureAddr, Sem.run_bind, Sem.run_pure, Result.andThen_ok, hrun]
    exact hK' _ _ hK

theorem own_low {w : World} {base : Nat} {e : TypeId} {size n : Nat} {v : Value} {xs : List Value} (h : w.ownsRow base e size v n xs) : ∀ g, v.ownBlock = some g → g < w.heap.size := fun g e' => (h.lt g e').2
theorem blk_own {β : Type} (B : Nat) (C : Array Value) (t : TypeId) : Own (fun (_ : β) W => W.heap[B]? = some (.cells C t (0, 0))) := by
  intro s X Y row h hg hrow
  refine (hg.block B (blk_lt h) ?_).trans h
  intro e
  obtain ⟨o, ho, hc⟩ := hrow B e.symm
  rw [h] at ho; cases ho; cases hc

end Go.Proofs.Ytdnajdobmlgmiaa
