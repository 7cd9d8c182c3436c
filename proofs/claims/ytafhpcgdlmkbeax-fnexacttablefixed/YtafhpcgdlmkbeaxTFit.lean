import Derived.Test.YtafhpcgdlmkbeaxTSpec
import Derived.Laws.AppendOwnNone
import Derived.Deep.WholeRow
namespace Go.Proofs.Ytafhpcgdlmkbeax
open Go.RowKit
set_option linter.unusedVariables false

theorem infoF : (Try.prog.info? 30).map (fun i => (i.zero, i.size, i.bytes)) = some (some (.agg #[.string ⟨#[]⟩, .string ⟨#[]⟩, .bool false]), 3, 40) := by kernel_rfl
theorem infoT2 : (Try.prog.info? 44).map (·.size) = some 2 := by kernel_rfl
/-- The first fields, as many as fit. -/
def fitL : Int → List Fd → List Fd
  | _, [] => []
  | max, f :: t => if fLen f ≤ max then f :: fitL (max - fLen f) t else []
theorem fLen_pos (f : Fd) : 4 ≤ fLen f := by unfold fLen; omega
theorem fSum_four (fs : List Fd) : 4 * (fs.length : Int) ≤ fSum fs := by
  induction fs with
  | nil => simp [fSum]
  | cons f t ih => have := fLen_pos f; simp only [fSum, List.length_cons]; omega
theorem fSum_nonneg (fs : List Fd) : 0 ≤ fSum fs := by
  induction fs with
  | nil => simp [fSum]
  | cons f t ih => have := fLen_pos f; simp only [fSum]; omega
theorem fitL_take (max : Int) (fs : List Fd) : fitL max fs = fs.take (fitL max fs).length := by
  induction fs generalizing max with
  | nil => rfl
  | cons f t ih =>
    unfold fitL
    split
    · rw [List.length_cons, List.take_succ_cons, ← ih]
    · rfl
theorem fitL_sum (max : Int) (fs : List Fd) (h : 0 ≤ max) : fSum (fitL max fs) ≤ max := by
  induction fs generalizing max with
  | nil => simpa [fitL, fSum] using h
  | cons f t ih =>
    unfold fitL
    split
    · rename_i hl
      have := ih (max - fLen f) (by omega)
      simp only [fSum]; omega
    · simpa [fSum] using h
theorem fitL_len (max : Int) (fs : List Fd) (k : Nat) (hk : k ≤ fs.length) (h : fSum (fs.take k) ≤ max) : k ≤ (fitL max fs).length := by
  induction fs generalizing max k with
  | nil => simp at hk; omega
  | cons f t ih =>
    cases k with
    | zero => omega
    | succ k =>
      rw [List.take_succ_cons] at h
      simp only [fSum] at h
      have h0 := fSum_nonneg (t.take k)
      unfold fitL
      rw [if_pos (by omega), List.length_cons]
      have := ih (max - fLen f) k (by simpa using hk) (by omega)
      omega
theorem fSum_take_le (fs : List Fd) (j k : Nat) (h : j ≤ k) : fSum (fs.take j) ≤ fSum (fs.take k) := by
  induction fs generalizing j k with
  | nil => simp
  | cons f t ih =>
    cases j with
    | zero => have := fSum_nonneg ((f :: t).take k); simpa [fSum] using this
    | succ j =>
      cases k with
      | zero => omega
      | succ k =>
        rw [List.take_succ_cons, List.take_succ_cons]
        simp only [fSum]
        have := ih j k (by omega)
        omega
theorem fitL_lt (max : Int) (fs : List Fd) (k : Nat) (h0 : 0 ≤ max) (h : max < fSum (fs.take k)) : (fitL max fs).length < k := by
  have h1 := fitL_sum max fs h0
  rw [fitL_take] at h1
  have : ¬ k ≤ (fitL max fs).length := by
    intro hk
    have := fSum_take_le fs k _ hk
    omega
  omega
theorem own_Fs {W : World} {base n cap : Nat} {a : Option Addr} {fs : List Fd} (h : W.ownsRow base 30 3 (.slice a n cap) n (cellsF fs)) : Fs W a n cap fs := by
  have hl := h.1
  rw [cellsF_length] at hl
  have hcs := h
  rcases h.2 with ⟨hv, rfl⟩ | ⟨g, c, cur, hv, _, _, h1, h2, _⟩
  · injection hv with e1 e2 e3
    subst e1; subst e3
    exact ⟨by omega, Nat.le_refl _, by unfold maxLen; omega, (by intro g o e; cases e), (by intro h; omega), .inl ⟨rfl, rfl, rfl⟩⟩
  · injection hv with e1 e2 e3
    subst e1; subst e3
    refine ⟨by omega, h1, h2, ?_, fun _ => ⟨g, 0, rfl⟩, .inr ⟨g, 0, rfl⟩⟩
    intro g' o e j u hu
    injection e with e
    injection e with e1 e2
    subst e1; subst e2
    have := hcs.cells (g := g) rfl j u hu
    rwa [Addr.add_lit] at this
theorem own_less {W : World} {base n cap m : Nat} {g : Nat} {e : TypeId} {size : Nat} {xs : List Value} (h : W.ownsRow base e size (.slice (some ⟨g, 0, none⟩) n cap) n xs) (hm : m ≤ n) : W.ownsRow base e size (.slice (some ⟨g, 0, none⟩) m cap) m (xs.take (m * size)) := by
  have hle : m * size ≤ n * size := Nat.mul_le_mul_right _ hm
  refine ⟨by rw [List.length_take, h.1]; omega, ?_⟩
  rcases h.2 with ⟨hv, _⟩ | ⟨g', c, cur, hv, h0, h1, h2, h3, h4, h5⟩
  · injection hv with e1; cases e1
  · injection hv with e1 e2 e3
    injection e1 with e1
    injection e1 with e1
    subst e1; subst e3
    refine .inr ⟨g, cap, cur, rfl, h0, h1, Nat.le_trans hm h2, h3, h4, ?_⟩
    rw [← h5, List.take_take, Nat.min_eq_left hle]
theorem cellsF_take (fs : List Fd) (k : Nat) : (cellsF fs).take (k * 3) = cellsF (fs.take k) := by
  induction fs generalizing k with
  | nil => simp [cellsF]
  | cons f t ih =>
    cases k with
    | zero => simp [cellsF]
    | succ k =>
      rw [List.take_succ_cons, cellsF_cons, cellsF_cons, show (k + 1) * 3 = k * 3 + 1 + 1 + 1 by omega, List.take_succ_cons, List.take_succ_cons, List.take_succ_cons, ih]
/-- 'append' of fields. -/
theorem wpList_appFs {ops : Array Oper} {rest : List Oper} {o : Oper} {act : Act} {Q : Exit → Act → World → Prop} (w : World) (hgd : o.guard = none) (s x : Operand)
    (ho : o.op = .call { callee := .builtin .append, args := #[s, x], argTypes := #[33, 33] })
    (base : Nat) (v : Value) (k : Nat) (xs : List Value) (hs : act.eval s = v) (hown : w.ownsRow base 30 3 v k xs) (a : Option Addr) (n cap : Nat) (fs : List Fd) (hx : act.eval x = .slice a n cap) (hf : Fs w a n cap fs)
    (hk : k + n ≤ 3000000) (hb : base ≤ w.heap.size)
    (h : ∀ v' w', w'.ownsRow base 30 3 v' (k + n) (xs ++ cellsF fs) → w.grownBy w' v.ownBlock → wpList Try.prog ops Q rest (act.put o.dst v') w') : wpList Try.prog ops Q (o :: rest) act w := by
  obtain ⟨ii, hi, hz0, hz1, hz2⟩ := info_parts infoF
  rcases hf.form with ⟨rfl, rfl, rfl⟩ | ⟨g, of, rfl⟩
  · have hfs : fs = [] := List.eq_nil_of_length_eq_zero hf.len
    subst hfs
    refine wpList_append_own_none hgd s x 33 ho base 30 ii 3 Try.underlying33 hi v k xs hs hown hx ?_
    exact h v w (by simpa [cellsF] using hown) ⟨rfl, rfl, rfl, Nat.le_refl _, fun _ _ _ => rfl⟩
  · refine wpList_append_own w hgd s x 33 ho base 30 ii (.agg #[.string ⟨#[]⟩, .string ⟨#[]⟩, .bool false]) 3 40 Try.underlying33 hi hz0 hz1 hz2 rfl (by decide) v k xs hs hown ⟨g, of, none⟩ n cap (cellsF fs) hx (by rw [cellsF_length, hf.len]) ?_ (cellsF_one fs) (by unfold maxLen; omega) (by omega) hb (fun v' w' h1 h2 _ => h v' w' h1 h2)
    intro j u hu
    have := hf.cells g of rfl j u hu
    rw [Addr.add_lit]
    exact this
theorem own_zero3 (w : World) (e : TypeId) : (w.alloc (.cells #[] e)).ownsRow w.heap.size e 3 (.slice (some ⟨w.heap.size, 0, none⟩) 0 0) 0 [] :=
  ⟨rfl, .inr ⟨w.heap.size, 0, #[], rfl, Nat.le_refl _, by show (w.heap.push _)[w.heap.size]? = _; simp, Nat.le_refl _, by decide, rfl, rfl⟩⟩
theorem own_formT {w : World} {base : Nat} {e : TypeId} {size : Nat} {v : Value} {n : Nat} {xs : List Value} (h : w.ownsRow base e size v n xs) : ∃ a c, v = .slice a n c := by
  rcases h.2 with ⟨rfl, rfl⟩ | ⟨g, cap, cur, rfl, _⟩
  · exact ⟨_, _, rfl⟩
  · exact ⟨_, _, rfl⟩
theorem own_belowT {w w' : World} {base : Nat} {e : TypeId} {size : Nat} {v : Value} {n : Nat} {xs : List Value} (h : w.ownsRow base e size v n xs) (hb : Below w.heap.size w w') : w'.ownsRow base e size v n xs := by
  refine ⟨h.1, ?_⟩
  rcases h.2 with h0 | ⟨g, cap, cur, h1, h2, h3, h4⟩
  · exact .inl h0
  · exact .inr ⟨g, cap, cur, h1, h2, by rw [hb.block g (Array.getElem?_eq_some_iff.1 h3).1]; exact h3, h4⟩
theorem own_baseT {w : World} {b b' : Nat} {e : TypeId} {size : Nat} {v : Value} {n : Nat} {xs : List Value} (h : w.ownsRow b e size v n xs) (hb : b' ≤ b) : w.ownsRow b' e size v n xs := by
  refine ⟨h.1, ?_⟩
  rcases h.2 with h0 | ⟨g, cap, cur, h1, h2, h3⟩
  · exact .inl h0
  · exact .inr ⟨g, cap, cur, h1, Nat.le_trans hb h2, h3⟩

theorem blkT {W : World} {B : Nat} {o : Obj} (h : W.heap[B]? = some o) (o' : Obj) : (W.alloc o').heap[B]? = some o := by
  have := (Array.getElem?_eq_some_iff.1 h).1
  show (W.heap.push o')[B]? = _
  rw [Array.getElem?_push, if_neg (by omega)]
  exact h
theorem keep_fit {w w1 w2 : World} {B : Nat} {v x : Value} {k : Nat} {xs : List Value} {o1 o2 : Obj} (hb : Below w1.heap.size w1 w2) (h0 : w1.cell? ⟨B, 1, none⟩ = some x) (h1 : w1.ownsRow w.heap.size 30 3 v k xs) (h2 : w1.heap[B]? = some o1) (h3 : w1.heap[B + 1]? = some o2) (h4 : Below w.heap.size w w1) :
    w2.cell? ⟨B, 1, none⟩ = some x ∧ w2.ownsRow w.heap.size 30 3 v k xs ∧ w2.heap[B]? = some o1 ∧ w2.heap[B + 1]? = some o2 ∧ Below w.heap.size w w2 :=
  ⟨(hb.cell (p := ⟨B, 1, none⟩) (World.block_lt_of_cell? w1 _ h0)).trans h0, own_belowT h1 hb, (hb.block _ (Array.getElem?_eq_some_iff.1 h2).1).trans h2, (hb.block _ (Array.getElem?_eq_some_iff.1 h3).1).trans h3, h4.trans (hb.mono h4.size)⟩
theorem grown_setRowT (w : World) (g : Nat) (cs : Array Value) : w.grownBy (w.setRow g cs) (some g) := by
  refine ⟨rfl, rfl, rfl, by simp [World.setRow], fun k _ hk => ?_⟩
  show (w.heap.modify g _)[k]? = _
  rw [Array.getElem?_modify, if_neg (fun e => hk (by rw [e]))]
theorem not_rowT {W : World} {B : Nat} {t e : TypeId} {C : Array Value} {fr : Nat × Nat} (h : W.heap[B]? = some (.cells C t fr)) (hte : t ≠ e) {base size k : Nat} {v : Value} {xs : List Value} (hr : W.ownsRow base e size v k xs) : some B ≠ v.ownBlock := by
  rcases hr.2 with ⟨rfl, _⟩ | ⟨g, cap, cur, rfl, _, hgb, _⟩
  · simp [Value.ownBlock]
  · intro e'
    obtain rfl : B = g := by simpa [Value.ownBlock] using e'
    have := h.symm.trans hgb
    simp at this
    exact hte this.2.1
def lenT : Value → Nat
  | .slice _ n _ => n
  | _ => 0
end Go.Proofs.Ytafhpcgdlmkbeax
