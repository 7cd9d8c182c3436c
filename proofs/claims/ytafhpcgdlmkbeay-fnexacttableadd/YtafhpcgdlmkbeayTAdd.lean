import Derived.Test.YtafhpcgdlmkbeayTFit
namespace Go.Proofs.Ytafhpcgdlmkbeay
open Go.RowKit
set_option linter.unusedVariables false

/-- 'append' of fields in a region that draws its order. -/
theorem step_appFs {ops : Array Oper} {o : Oper} {act : Act} {K : Act → World → Prop} {Q : Exit → Act → World → Prop} {E : Prop} (w : World) (hgd : o.guard = none) (s x : Operand)
    (ho : o.op = .call { callee := .builtin .append, args := #[s, x], argTypes := #[27, 27] })
    (base : Nat) (v : Value) (k : Nat) (xs : List Value) (hs : act.eval s = v) (hown : w.ownsRow base 37 3 v k xs) (a : Option Addr) (n cap : Nat) (fs : List Fd) (hx : act.eval x = .slice a n cap) (hf : Fs w a n cap fs)
    (hk : k + n ≤ 3000000) (hb : base ≤ w.heap.size)
    (h : ∀ v' w', w'.ownsRow base 37 3 v' (k + n) (xs ++ cellsF fs) → w.grownBy w' v.ownBlock → K (act.put o.dst v') w') : if Region.wanted o (yielded ops act.tmps) = true then Oper.wp Try.prog o act w K Q else E := by
  have hw : Region.wanted o (yielded ops act.tmps) = true := by simp [Region.wanted, hgd]
  rw [if_pos hw]
  obtain ⟨ii, hi, hz0, hz1, hz2⟩ := info_parts infoF
  rcases hf.form with ⟨rfl, rfl, rfl⟩ | ⟨g, of, rfl⟩
  · have hfs : fs = [] := List.eq_nil_of_length_eq_zero hf.len
    subst hfs
    have hrun := run_append_owned_none (P := Try.prog) (w := w) base 27 o.type 37 ii 3 Try.underlying27 hi v k xs hown
    unfold Oper.wp
    simp [execOp, ho, resolve, invoke, builtin, hs, hx, hrun, Result.andThen]
    exact h v w (by simpa [cellsF] using hown) ⟨rfl, rfl, rfl, Nat.le_refl _, fun _ _ _ => rfl⟩
  · obtain ⟨v', w', hrun, r1, r2, r3⟩ := run_append_own (P := Try.prog) w base 27 o.type 37 ii (.agg #[.string ⟨#[]⟩, .string ⟨#[]⟩, .bool false]) 3 40 Try.underlying27 hi hz0 hz1 hz2 rfl (by decide) v k xs hown ⟨g, of, none⟩ n cap (cellsF fs) (by rw [cellsF_length, hf.len]) (by
        intro j u hu
        have := hf.cells g of rfl j u hu
        rw [Addr.add_lit]
        exact this) (cellsF_one fs) (by unfold maxLen; omega) (by omega) hb
    unfold Oper.wp
    simp [execOp, ho, resolve, invoke, builtin, hs, hx, hrun, Result.andThen]
    exact h v' w' r1 r2
theorem own_one3 (w : World) (base : Nat) (e : TypeId) (x y z : Value) (hb : base ≤ w.heap.size) : (w.alloc (.cells #[x, y, z] e)).ownsRow base e 3 (.slice (some ⟨w.heap.size, 0, none⟩) 1 1) 1 [x, y, z] :=
  ⟨rfl, .inr ⟨w.heap.size, 1, #[x, y, z], rfl, hb, by show (w.heap.push _)[w.heap.size]? = _; simp, Nat.le_refl _, by decide, rfl, rfl⟩⟩

theorem Fs.lt' {w : World} {a : Option Addr} {g o n cap : Nat} {fs : List Fd} (h : Fs w a n cap fs) (e : a = some ⟨g, o, none⟩) (hn : 0 < n) : g < w.heap.size := by
  subst e
  exact h.lt hn
/-- What lies in memory while a field is added. -/
structure TA (w : World) (B : Nat) (a : Option Addr) (n cap : Nat) (max : Int) (f : Fd) (fs : List Fd) (w' : World) : Prop where
  tab : w'.heap[B]? = some (.cells #[.slice a n cap, .int .i64 max] 29 (0, 0))
  fld : w'.heap[B + 1]? = some (.cells #[.string f.n, .string f.v, .bool false] 37 (0, 0))
  res : w'.heap[B + 1 + 1]? = some (.cells #[.slice none 0 0, .int .i64 0] 29 (0, 0))
  fs : Fs w' a n cap fs
  bel : Below w.heap.size w w'
theorem TA.below {w : World} {B : Nat} {a : Option Addr} {n cap : Nat} {max : Int} {f : Fd} {fs : List Fd} {w1 w2 : World} (h : TA w B a n cap max f fs w1) (hb : Below w1.heap.size w1 w2) : TA w B a n cap max f fs w2 :=
  ⟨(hb.block _ (Array.getElem?_eq_some_iff.1 h.tab).1).trans h.tab, (hb.block _ (Array.getElem?_eq_some_iff.1 h.fld).1).trans h.fld, (hb.block _ (Array.getElem?_eq_some_iff.1 h.res).1).trans h.res, h.fs.below hb, h.bel.trans (hb.mono h.bel.size)⟩
theorem TA.alloc {w : World} {B : Nat} {a : Option Addr} {n cap : Nat} {max : Int} {f : Fd} {fs : List Fd} {w1 : World} (h : TA w B a n cap max f fs w1) (o : Obj) : TA w B a n cap max f fs (w1.alloc o) :=
  h.below ((Below.refl _ _).alloc (Nat.le_refl _) _)
theorem TA.cells {w : World} {B : Nat} {a : Option Addr} {n cap : Nat} {max : Int} {f : Fd} {fs : List Fd} {w' : World} (h : TA w B a n cap max f fs w') : w'.cell? ⟨B, 0, none⟩ = some (.slice a n cap) ∧ w'.cell? ⟨B, 1, none⟩ = some (.int .i64 max) ∧ w'.cell? ⟨B + 1, 0, none⟩ = some (.string f.n) ∧ w'.cell? ⟨B + 1, 1, none⟩ = some (.string f.v) ∧ w'.cell? ⟨B + 1, 2, none⟩ = some (.bool false) ∧ w'.cell? ⟨B + 1 + 1, 0, none⟩ = some (.slice none 0 0) ∧ w'.cell? ⟨B + 1 + 1, 1, none⟩ = some (.int .i64 0) ∧ w'.frozen? ⟨B + 1 + 1, 0, none⟩ = false ∧ w'.frozen? ⟨B + 1 + 1, 1, none⟩ = false :=
  ⟨cell_of_row _ _ 0 _ _ _ h.tab, cell_of_row _ _ 1 _ _ _ h.tab, cell_of_row _ _ 0 _ _ _ h.fld, cell_of_row _ _ 1 _ _ _ h.fld, cell_of_row _ _ 2 _ _ _ h.fld, cell_of_row _ _ 0 _ _ _ h.res, cell_of_row _ _ 1 _ _ _ h.res, by simp [World.frozen?, h.res], by simp [World.frozen?, h.res]⟩
theorem TA.five {w : World} {B : Nat} {a : Option Addr} {n cap : Nat} {max : Int} {f : Fd} {fs : List Fd} {w' : World} (h : TA w B a n cap max f fs w') : w'.cell? ⟨B, 0, none⟩ = some (.slice a n cap) ∧ w'.cell? ⟨B, 1, none⟩ = some (.int .i64 max) ∧ w'.cell? ⟨B + 1, 0, none⟩ = some (.string f.n) ∧ w'.cell? ⟨B + 1, 1, none⟩ = some (.string f.v) ∧ w'.cell? ⟨B + 1, 2, none⟩ = some (.bool false) :=
  ⟨h.cells.1, h.cells.2.1, h.cells.2.2.1, h.cells.2.2.2.1, h.cells.2.2.2.2.1⟩
theorem cell_set (W : World) (p q : Addr) (v : Value) (hne : q.block ≠ p.block) : (W.setCell p v).cell? q = W.cell? q := World.cell?_of_block (Below.heap_setCell W p v q.block hne)
theorem TA.five_set {w : World} {B : Nat} {a : Option Addr} {n cap : Nat} {max : Int} {f : Fd} {fs : List Fd} {w' : World} (h : TA w B a n cap max f fs w') (x y : Value) : ((w'.setCell ⟨B + 1 + 1, 0, none⟩ x).setCell ⟨B + 1 + 1, 1, none⟩ y).cell? ⟨B, 0, none⟩ = some (.slice a n cap) ∧ ((w'.setCell ⟨B + 1 + 1, 0, none⟩ x).setCell ⟨B + 1 + 1, 1, none⟩ y).cell? ⟨B, 1, none⟩ = some (.int .i64 max) ∧ ((w'.setCell ⟨B + 1 + 1, 0, none⟩ x).setCell ⟨B + 1 + 1, 1, none⟩ y).cell? ⟨B + 1, 0, none⟩ = some (.string f.n) ∧ ((w'.setCell ⟨B + 1 + 1, 0, none⟩ x).setCell ⟨B + 1 + 1, 1, none⟩ y).cell? ⟨B + 1, 1, none⟩ = some (.string f.v) ∧ ((w'.setCell ⟨B + 1 + 1, 0, none⟩ x).setCell ⟨B + 1 + 1, 1, none⟩ y).cell? ⟨B + 1, 2, none⟩ = some (.bool false) := by
  have h5 := h.five
  have n0 : B ≠ B + 1 + 1 := by omega
  have n1 : B + 1 ≠ B + 1 + 1 := by omega
  refine ⟨?_, ?_, ?_, ?_, ?_⟩
  · rw [cell_set _ _ _ _ n0, cell_set _ _ _ _ n0]; exact h5.1
  · rw [cell_set _ _ _ _ n0, cell_set _ _ _ _ n0]; exact h5.2.1
  · rw [cell_set _ _ _ _ n1, cell_set _ _ _ _ n1]; exact h5.2.2.1
  · rw [cell_set _ _ _ _ n1, cell_set _ _ _ _ n1]; exact h5.2.2.2.1
  · rw [cell_set _ _ _ _ n1, cell_set _ _ _ _ n1]; exact h5.2.2.2.2
theorem TA.grown {w : World} {a : Option Addr} {n cap : Nat} {max : Int} {f : Fd} {fs : List Fd} {W0 w1 : World} {o : Obj} {v : Value} (h : TA w w.heap.size a n cap max f fs (W0.drew.alloc o)) (hg : (W0.drew.alloc o).grownBy w1 v.ownBlock) (hs : W0.heap.size = w.heap.size + 1 + 1 + 1) (hv : v.ownBlock = some W0.heap.size) (hlt : ∀ g x, a = some ⟨g, x, none⟩ → 0 < n → g < W0.heap.size) : TA w w.heap.size a n cap max f fs w1 := by
  rw [hv] at hg
  have hz : (W0.drew.alloc o).heap.size = W0.heap.size + 1 := by simp
  have hb : Below W0.heap.size (W0.drew.alloc o) w1 := (Below.refl _ _).grown hg (by rw [hz]; omega) (fun k e => by injection e with e; omega)
  refine ⟨(hb.block _ (by omega)).trans h.tab, (hb.block _ (by omega)).trans h.fld, (hb.block _ (by omega)).trans h.res, ?_, h.bel.trans (hb.mono (by omega))⟩
  refine ⟨h.fs.len, h.fs.le, h.fs.cmax, ?_, h.fs.some', h.fs.form⟩
  intro g x e j u hu
  have hc := h.fs.cells g x e j u hu
  have hn : 0 < n := by
    have h1 := (List.getElem?_eq_some_iff.1 hu).1
    rw [cellsF_length, h.fs.len] at h1
    omega
  rw [hb.cell (p := ⟨g, x + j, none⟩) (hlt g x e hn)]
  exact hc
theorem own_Fs' {W : World} {base n : Nat} {v : Value} {f : Fd} {fs : List Fd} (h : W.ownsRow base 37 3 v (1 + n) ([.string f.n, .string f.v, .bool false] ++ cellsF fs)) : ∃ a cap, v = .slice a (1 + n) cap ∧ Fs W a (1 + n) cap (⟨f.n, f.v, false⟩ :: fs) := by
  obtain ⟨a, c, rfl⟩ := own_formT h
  exact ⟨a, c, rfl, own_Fs (by rw [cellsF_cons]; exact h)⟩

theorem set2_heap {W : World} {B : Nat} {a b : Value} {t : TypeId} (x y : Value) (h : W.heap[B]? = some (.cells #[a, b] t (0, 0))) : ((W.setCell ⟨B, 0, none⟩ x).setCell ⟨B, 1, none⟩ y).heap[B]? = some (.cells #[x, y] t (0, 0)) := by
  have key : ∀ (W : World) (a b : Value) (o : Nat) (v : Value), W.heap[B]? = some (.cells #[a, b] t (0, 0)) → (W.setCell ⟨B, o, none⟩ v).heap[B]? = some (.cells (#[a, b].setIfInBounds o v) t (0, 0)) := by
    intro W a b o v h
    obtain ⟨hlt, hk⟩ := Array.getElem?_eq_some_iff.1 h
    show (W.heap.modify B _)[B]? = _
    rw [Array.getElem?_eq_getElem (by rw [Array.size_modify]; exact hlt), Array.getElem_modify_self, hk]
    rfl
  exact key _ _ _ 1 y (key W _ _ 0 x h)
theorem own_setT {W : World} {base : Nat} {e : TypeId} {size : Nat} {v : Value} {k : Nat} {xs : List Value} (h : W.ownsRow base e size v k xs) (p : Addr) (u : Value) (hne : some p.block ≠ v.ownBlock) : (W.setCell p u).ownsRow base e size v k xs := by
  refine ⟨h.1, ?_⟩
  rcases h.2 with h0 | ⟨g, cap, cur, rfl, h2, h3, h4⟩
  · exact .inl h0
  · refine .inr ⟨g, cap, cur, rfl, h2, ?_, h4⟩
    rw [Below.heap_setCell W p u g (fun e => hne (by rw [← e]; rfl))]
    exact h3

set_option maxRecDepth 100000 in
set_option maxHeartbeats 1000000 in
theorem l3Add_any (fs : List Fd) (f : Fd) (a : Option Addr) (n cap : Nat) (max : Int) (w : World) (hf : Fs w a n cap fs) (hbd : fsBd fs) (hfb : f.n.size ≤ 1048576 ∧ f.v.size ≤ 1048576) (hn : n ≤ 1048576) (m0 : 0 ≤ max) (m1 : max ≤ 1000) :
    Calls Try.prog 35 #[.agg #[.slice a n cap, .int .i64 max], f.val] w fun e w' => ∃ v, e = .returned (.agg #[v, .int .i64 max]) ∧ w'.ownsRow w.heap.size 37 3 v (fitL max (⟨f.n, f.v, false⟩ :: fs)).length (cellsF (fitL max (⟨f.n, f.v, false⟩ :: fs))) ∧ Below w.heap.size w w' := by
  have HF : Hid (Fs w a n cap fs) := hf
  have HB : Hid (fsBd fs) := hbd
  clear hf hbd
  unfold Fd.val
  go_enter Try.func35, Try.ntmps35
  go_wp2
  obtain ⟨W0, hW0⟩ : ∃ W0, (((w.alloc (.cells #[.slice a n cap, .int .i64 max] 29)).alloc (.cells #[.string f.n, .string f.v, .bool false] 37)).alloc (.cells #[.slice none 0 0, .int .i64 0] 29)) = W0 := ⟨_, rfl⟩
  have hB0 : Below w.heap.size w W0 := by rw [← hW0]; exact (((Below.refl _ _).alloc (Nat.le_refl _) _).alloc (by simp) _).alloc (by simp; omega) _
  have hs0 : Hid (W0.heap.size = w.heap.size + 1 + 1 + 1) := by show W0.heap.size = w.heap.size + 1 + 1 + 1; rw [← hW0]; simp
  have hS0 : TA w (w.heap.size) a n cap max f fs W0 := by
    have e1 := heap_alloc_last w (.cells #[.slice a n cap, .int .i64 max] 29)
    have e2 := heap_alloc_last (w.alloc (.cells #[.slice a n cap, .int .i64 max] 29)) (.cells #[.string f.n, .string f.v, .bool false] 37)
    have e3 := heap_alloc_last ((w.alloc (.cells #[.slice a n cap, .int .i64 max] 29)).alloc (.cells #[.string f.n, .string f.v, .bool false] 37)) (.cells #[.slice none 0 0, .int .i64 0] 29)
    rw [World.size_alloc] at e2
    rw [World.size_alloc, World.size_alloc] at e3
    refine ⟨?_, ?_, ?_, HF.out.below hB0, hB0⟩
    · rw [← hW0]; exact blkT (blkT e1 _) _
    · rw [← hW0]; exact blkT e2 _
    · rw [← hW0]; exact e3
  rw [hW0]
  clear hW0
  have hmx : Try.prog.follows .mixedOrders = true := by kernel_rfl
  have hSd : TA w (w.heap.size) a n cap max f fs W0.drew := hS0.below ((Below.refl _ _).drew)
  have hbf : fsBd (⟨f.n, f.v, false⟩ :: fs) := by
    intro x hx
    rcases List.mem_cons.1 hx with rfl | hx
    · exact hfb
    · exact HB.out x hx
  obtain ⟨q1, q2, q3, q4, q5, q6, q7, q8, q9⟩ := hSd.cells
  go_region_held3 (fun w' => w'.cell? ⟨w.heap.size, 0, none⟩ = some (.slice a n cap) ∧ w'.cell? ⟨w.heap.size, 1, none⟩ = some (.int .i64 max) ∧ w'.cell? ⟨w.heap.size + 1, 0, none⟩ = some (.string f.n) ∧ w'.cell? ⟨w.heap.size + 1, 1, none⟩ = some (.string f.v) ∧ w'.cell? ⟨w.heap.size + 1, 2, none⟩ = some (.bool false)) (first | exact ⟨q1, q2, q3, q4, q5⟩ | exact (hSd.alloc _).five | exact hS4.five | exact hSN.five | exact hSN.five_set _ _) ((first | (go_at_call 42; refine (l3Fit_any (⟨f.n, f.v, false⟩ :: fs) _ _ _ _ _ hFs4 hbf (by omega) m0 m1).mono ?_; rintro e wN ⟨vN, rfl, hownN, hbN⟩; obtain ⟨aN, cN, rfl⟩ := own_formT hownN; have hSN : TA w (w.heap.size) a n cap max f fs wN := hS4.below hbN; obtain ⟨z1, z2, z3, z4, z5, z6, z7, z8, z9⟩ := hSN.cells) | (refine step_appFs _ (by rfl) _ _ (by rfl) w.heap.size _ _ _ (by rfl) (own_one3 W0.drew w.heap.size 37 _ _ _ hSd.bel.size) a n cap fs (by rfl) (hSd.alloc _).fs (by omega) (by have := hS0.bel.size; simp; omega) ?_; intro v4 w4 hown4 hgrow4; have hS4 : TA w (w.heap.size) a n cap max f fs w4 := (hSd.alloc _).grown hgrow4 hs0.out rfl (fun g x e hn => hS0.fs.lt' e hn); obtain ⟨a4, c4, rfl, hFs4⟩ := own_Fs' hown4)))
  go_wp2
  have hne := not_rowT hSN.res (by decide) hownN
  refine bodyPost_ret (results_cell_row rfl _ _ (w.heap.size + 1 + 1) 29 #[.slice aN (fitL max (⟨f.n, f.v, false⟩ :: fs)).length cN, .int .i64 max] (0, 0) _ rfl (set2_heap _ _ hSN.res) Try.underlying29 rfl infoT2) rfl ⟨_, rfl, own_baseT (own_setT (own_setT hownN _ _ hne) _ _ hne) hS4.bel.size, ((hSN.bel.setCell (p := ⟨w.heap.size + 1 + 1, 0, none⟩) (by show w.heap.size ≤ w.heap.size + 1 + 1; omega) _).setCell (p := ⟨w.heap.size + 1 + 1, 1, none⟩) (by show w.heap.size ≤ w.heap.size + 1 + 1; omega) _)⟩
end Go.Proofs.Ytafhpcgdlmkbeay
