import Derived.Test.YtghgcobnmmommaaDoorBA
import Derived.Deep.RegionHeld3
import Derived.Deep.QuietTactic
import Derived.BigQuiet
import Derived.Laws.AppendOwnNone
import Derived.Deep.WholeRow
import Derived.Test.YtghgcobnmmommaaDoorBC
namespace Go.Proofs.YtghgcobnmmommaaDoor
open Go.RowKit
set_option linter.unusedVariables false

theorem tOk_bad {fs : List Fd} {max : Int} {k : Nat} (hk : k < fs.length) (h : (fOk fs[k] && !fs[k].q) = false) : tOk fs max = false := by
  unfold tOk
  have : fs.all (fun f => fOk f && !f.q) = false := by
    rw [List.all_eq_false]
    exact ⟨fs[k], List.getElem_mem hk, by rw [h]; decide⟩
  rw [this]; rfl
theorem tOk_good {fs : List Fd} {max : Int} (h : ∀ j (hj : j < fs.length), (fOk fs[j] && !fs[j].q) = true) : tOk fs max = (decide (0 ≤ max) && decide (max ≤ 64) && decide (fSum fs ≤ max)) := by
  unfold tOk
  have : fs.all (fun f => fOk f && !f.q) = true := by
    rw [List.all_eq_true]
    intro f hf
    obtain ⟨j, hj, rfl⟩ := List.getElem_of_mem hf
    exact h j hj
  rw [this, Bool.true_and]

theorem keep_tab {w w1 w2 : World} {B n cap : Nat} {a : Option Addr} {fs : List Fd} {x y : Value} (hb : Below w1.heap.size w1 w2) (h0 : w1.cell? ⟨B, 0, none⟩ = some x) (h1 : w1.cell? ⟨B, 1, none⟩ = some y) (h2 : Fs w1 a n cap fs) (h3 : Below w.heap.size w w1) :
    w2.cell? ⟨B, 0, none⟩ = some x ∧ w2.cell? ⟨B, 1, none⟩ = some y ∧ Fs w2 a n cap fs ∧ Below w.heap.size w w2 :=
  ⟨(hb.cell (p := ⟨B, 0, none⟩) (World.block_lt_of_cell? w1 _ h0)).trans h0, (hb.cell (p := ⟨B, 1, none⟩) (World.block_lt_of_cell? w1 _ h1)).trans h1, h2.below hb, h3.trans (hb.mono h3.size)⟩
theorem bdrewT {a w : World} {B : Nat} (h : Below B a w) (n : Nat) : Below B a (w.drewN n) := by
  obtain ⟨h1, h2, h3, h4, h5⟩ := h
  exact ⟨h1, h2, h3, h4, h5⟩
end Go.Proofs.YtghgcobnmmommaaDoor

namespace Go.Proofs.YtghgcobnmmommaaDoor
open Go.RowKit
set_option linter.unusedVariables false

/-- The first fields, as many as fit. -/
def fitL : Int → List Fd → List Fd
  | _, [] => []
  | max, f :: t => if fLen f ≤ max then f :: fitL (max - fLen f) t else []
theorem fLen_pos (f : Fd) : 4 ≤ fLen f := by unfold fLen; omega
theorem fSum_four (fs : List Fd) : 4 * (fs.length : Int) ≤ fSum fs := by
  induction fs with
  | nil => simp [fSum]
  | cons f t ih => have := fLen_pos f; simp only [fSum, List.length_cons]; omega
theorem fSum_nonneg (fs : List Fd) : 0 ≤ fSum fs := by
  induction fs with
  | nil => simp [fSum]
  | cons f t ih => have := fLen_pos f; simp only [fSum]; omega
theorem fitL_take (max : Int) (fs : List Fd) : fitL max fs = fs.take (fitL max fs).length := by
  induction fs generalizing max with
  | nil => rfl
  | cons f t ih =>
    unfold fitL
    split
    · rw [List.length_cons, List.take_succ_cons, ← ih]
    · rfl
theorem fitL_sum (max : Int) (fs : List Fd) (h : 0 ≤ max) : fSum (fitL max fs) ≤ max := by
  induction fs generalizing max with
  | nil => simpa [fitL, fSum] using h
  | cons f t ih =>
    unfold fitL
    split
    · rename_i hl
      have := ih (max - fLen f) (by omega)
      simp only [fSum]; omega
    · simpa [fSum] using h
theorem fitL_len (max : Int) (fs : List Fd) (k : Nat) (hk : k ≤ fs.length) (h : fSum (fs.take k) ≤ max) : k ≤ (fitL max fs).length := by
  induction fs generalizing max k with
  | nil => simp at hk; omega
  | cons f t ih =>
    cases k with
    | zero => omega
    | succ k =>
      rw [List.take_succ_cons] at h
      simp only [fSum] at h
      have h0 := fSum_nonneg (t.take k)
      unfold fitL
      rw [if_pos (by omega), List.length_cons]
      have := ih (max - fLen f) k (by simpa using hk) (by omega)
      omega
theorem fSum_take_le (fs : List Fd) (j k : Nat) (h : j ≤ k) : fSum (fs.take j) ≤ fSum (fs.take k) := by
  induction fs generalizing j k with
  | nil => simp
  | cons f t ih =>
    cases j with
    | zero => have := fSum_nonneg ((f :: t).take k); simpa [fSum] using this
    | succ j =>
      cases k with
      | zero => omega
      | succ k =>
        rw [List.take_succ_cons, List.take_succ_cons]
        simp only [fSum]
        have := ih j k (by omega)
        omega
theorem fitL_lt (max : Int) (fs : List Fd) (k : Nat) (h0 : 0 ≤ max) (h : max < fSum (fs.take k)) : (fitL max fs).length < k := by
  have h1 := fitL_sum max fs h0
  rw [fitL_take] at h1
  have : ¬ k ≤ (fitL max fs).length := by
    intro hk
    have := fSum_take_le fs k _ hk
    omega
  omega
theorem own_less {W : World} {base n cap m : Nat} {g : Nat} {e : TypeId} {size : Nat} {xs : List Value} (h : W.ownsRow base e size (.slice (some ⟨g, 0, none⟩) n cap) n xs) (hm : m ≤ n) : W.ownsRow base e size (.slice (some ⟨g, 0, none⟩) m cap) m (xs.take (m * size)) := by
  have hle : m * size ≤ n * size := Nat.mul_le_mul_right _ hm
  refine ⟨by rw [List.length_take, h.1]; omega, ?_⟩
  rcases h.2 with ⟨hv, _⟩ | ⟨g', c, cur, hv, h0, h1, h2, h3, h4, h5⟩
  · injection hv with e1; cases e1
  · injection hv with e1 e2 e3
    injection e1 with e1
    injection e1 with e1
    subst e1; subst e3
    refine .inr ⟨g, cap, cur, rfl, h0, h1, Nat.le_trans hm h2, h3, h4, ?_⟩
    rw [← h5, List.take_take, Nat.min_eq_left hle]
theorem cellsF_take (fs : List Fd) (k : Nat) : (cellsF fs).take (k * 3) = cellsF (fs.take k) := by
  induction fs generalizing k with
  | nil => simp [cellsF]
  | cons f t ih =>
    cases k with
    | zero => simp [cellsF]
    | succ k =>
      rw [List.take_succ_cons, cellsF_cons, cellsF_cons, show (k + 1) * 3 = k * 3 + 1 + 1 + 1 by omega, List.take_succ_cons, List.take_succ_cons, List.take_succ_cons, ih]
theorem own_zero3 (w : World) (e : TypeId) : (w.alloc (.cells #[] e)).ownsRow w.heap.size e 3 (.slice (some ⟨w.heap.size, 0, none⟩) 0 0) 0 [] :=
  ⟨rfl, .inr ⟨w.heap.size, 0, #[], rfl, Nat.le_refl _, by show (w.heap.push _)[w.heap.size]? = _; simp, Nat.le_refl _, by decide, rfl, rfl⟩⟩
theorem own_formT {w : World} {base : Nat} {e : TypeId} {size : Nat} {v : Value} {n : Nat} {xs : List Value} (h : w.ownsRow base e size v n xs) : ∃ a c, v = .slice a n c := by
  rcases h.2 with ⟨rfl, rfl⟩ | ⟨g, cap, cur, rfl, _⟩
  · exact ⟨_, _, rfl⟩
  · exact ⟨_, _, rfl⟩
theorem own_belowT {w w' : World} {base : Nat} {e : TypeId} {size : Nat} {v : Value} {n : Nat} {xs : List Value} (h : w.ownsRow base e size v n xs) (hb : Below w.heap.size w w') : w'.ownsRow base e size v n xs := by
  refine ⟨h.1, ?_⟩
  rcases h.2 with h0 | ⟨g, cap, cur, h1, h2, h3, h4⟩
  · exact .inl h0
  · exact .inr ⟨g, cap, cur, h1, h2, by rw [hb.block g (Array.getElem?_eq_some_iff.1 h3).1]; exact h3, h4⟩
theorem own_baseT {w : World} {b b' : Nat} {e : TypeId} {size : Nat} {v : Value} {n : Nat} {xs : List Value} (h : w.ownsRow b e size v n xs) (hb : b' ≤ b) : w.ownsRow b' e size v n xs := by
  refine ⟨h.1, ?_⟩
  rcases h.2 with h0 | ⟨g, cap, cur, h1, h2, h3⟩
  · exact .inl h0
  · exact .inr ⟨g, cap, cur, h1, Nat.le_trans hb h2, h3⟩

theorem blkT {W : World} {B : Nat} {o : Obj} (h : W.heap[B]? = some o) (o' : Obj) : (W.alloc o').heap[B]? = some o := by
  have := (Array.getElem?_eq_some_iff.1 h).1
  show (W.heap.push o')[B]? = _
  rw [Array.getElem?_push, if_neg (by omega)]
  exact h
theorem grown_setRowT (w : World) (g : Nat) (cs : Array Value) : w.grownBy (w.setRow g cs) (some g) := by
  refine ⟨rfl, rfl, rfl, by simp [World.setRow], fun k _ hk => ?_⟩
  show (w.heap.modify g _)[k]? = _
  rw [Array.getElem?_modify, if_neg (fun e => hk (by rw [e]))]
theorem not_rowT {W : World} {B : Nat} {t e : TypeId} {C : Array Value} {fr : Nat × Nat} (h : W.heap[B]? = some (.cells C t fr)) (hte : t ≠ e) {base size k : Nat} {v : Value} {xs : List Value} (hr : W.ownsRow base e size v k xs) : some B ≠ v.ownBlock := by
  rcases hr.2 with ⟨rfl, _⟩ | ⟨g, cap, cur, rfl, _, hgb, _⟩
  · simp [Value.ownBlock]
  · intro e'
    obtain rfl : B = g := by simpa [Value.ownBlock] using e'
    have := h.symm.trans hgb
    simp at this
    exact hte this.2.1
def lenT : Value → Nat
  | .slice _ n _ => n
  | _ => 0
end Go.Proofs.YtghgcobnmmommaaDoor

namespace Go.Proofs.YtghgcobnmmommaaDoor
open Go.RowKit
set_option linter.unusedVariables false

theorem own_one3 (w : World) (base : Nat) (e : TypeId) (x y z : Value) (hb : base ≤ w.heap.size) : (w.alloc (.cells #[x, y, z] e)).ownsRow base e 3 (.slice (some ⟨w.heap.size, 0, none⟩) 1 1) 1 [x, y, z] :=
  ⟨rfl, .inr ⟨w.heap.size, 1, #[x, y, z], rfl, hb, by show (w.heap.push _)[w.heap.size]? = _; simp, Nat.le_refl _, by decide, rfl, rfl⟩⟩

theorem Fs.lt' {w : World} {a : Option Addr} {g o n cap : Nat} {fs : List Fd} (h : Fs w a n cap fs) (e : a = some ⟨g, o, none⟩) (hn : 0 < n) : g < w.heap.size := by
  subst e
  exact h.lt hn
theorem cell_set (W : World) (p q : Addr) (v : Value) (hne : q.block ≠ p.block) : (W.setCell p v).cell? q = W.cell? q := World.cell?_of_block (Below.heap_setCell W p v q.block hne)
theorem set2_heap {W : World} {B : Nat} {a b : Value} {t : TypeId} (x y : Value) (h : W.heap[B]? = some (.cells #[a, b] t (0, 0))) : ((W.setCell ⟨B, 0, none⟩ x).setCell ⟨B, 1, none⟩ y).heap[B]? = some (.cells #[x, y] t (0, 0)) := by
  have key : ∀ (W : World) (a b : Value) (o : Nat) (v : Value), W.heap[B]? = some (.cells #[a, b] t (0, 0)) → (W.setCell ⟨B, o, none⟩ v).heap[B]? = some (.cells (#[a, b].setIfInBounds o v) t (0, 0)) := by
    intro W a b o v h
    obtain ⟨hlt, hk⟩ := Array.getElem?_eq_some_iff.1 h
    show (W.heap.modify B _)[B]? = _
    rw [Array.getElem?_eq_getElem (by rw [Array.size_modify]; exact hlt), Array.getElem_modify_self, hk]
    rfl
  exact key _ _ _ 1 y (key W _ _ 0 x h)
theorem own_setT {W : World} {base : Nat} {e : TypeId} {size : Nat} {v : Value} {k : Nat} {xs : List Value} (h : W.ownsRow base e size v k xs) (p : Addr) (u : Value) (hne : some p.block ≠ v.ownBlock) : (W.setCell p u).ownsRow base e size v k xs := by
  refine ⟨h.1, ?_⟩
  rcases h.2 with h0 | ⟨g, cap, cur, rfl, h2, h3, h4⟩
  · exact .inl h0
  · refine .inr ⟨g, cap, cur, rfl, h2, ?_, h4⟩
    rw [Below.heap_setCell W p u g (fun e => hne (by rw [← e]; rfl))]
    exact h3

end Go.Proofs.YtghgcobnmmommaaDoor

namespace Go.Proofs.YtghgcobnmmommaaDoor
open Go.RowKit
set_option linter.unusedVariables false

/-- What TableAdd and TableLimit answer. -/
def addV (fs : List Fd) (max : Int) (f : Fd) : List Fd × Int := if tOk fs max && fOk f then (fitL max (⟨f.n, f.v, false⟩ :: fs), max) else ([], 0)
def limV (fs : List Fd) (max most : Int) : List Fd × Int := if tOk fs max && (decide (0 ≤ most) && decide (most ≤ 64)) then (fitL most fs, most) else ([], 0)
theorem tOk_max {fs : List Fd} {max : Int} (h : tOk fs max = true) : 0 ≤ max ∧ max ≤ 64 := by
  unfold tOk at h
  simp at h
  exact ⟨h.2.1.1, h.2.1.2⟩
theorem wOk_size {s : ByteArray} (h : wOk (bytesL s) = true) : s.size ≤ 16 := by
  unfold wOk at h
  rw [Bool.and_eq_true] at h
  have := h.2
  rw [bytesL_length] at this
  simpa using this
theorem fOk_size {f : Fd} (h : fOk f = true) : f.n.size ≤ 16 ∧ f.v.size ≤ 16 := by
  unfold fOk at h
  rw [Bool.and_eq_true, Bool.and_eq_true] at h
  exact ⟨wOk_size h.1.1, wOk_size h.2⟩
theorem tOk_parts {fs : List Fd} {max : Int} (h : tOk fs max = true) : (∀ f ∈ fs, fOk f = true ∧ f.q = false) ∧ 0 ≤ max ∧ max ≤ 64 ∧ fSum fs ≤ max := by
  unfold tOk at h
  simp only [Bool.and_eq_true, List.all_eq_true, decide_eq_true_eq] at h
  exact ⟨fun f hf => ⟨(h.1 f hf).1, by simpa using (h.1 f hf).2⟩, h.2.1.1, h.2.1.2, h.2.2⟩
theorem tOk_len {fs : List Fd} {max : Int} (h : tOk fs max = true) : fs.length ≤ 16 := by
  have h1 := tOk_parts h
  have h2 := fSum_four fs
  omega
end Go.Proofs.YtghgcobnmmommaaDoor

namespace Go.Proofs.YtghgcobnmmommaaDoor
open Go.RowKit
set_option linter.unusedVariables false

/-- The fixed fields. -/
def fixedL : List Fd := [⟨⟨#[58, 112, 97, 116, 104]⟩, ⟨#[]⟩, false⟩, ⟨⟨#[58, 115, 116, 97, 116, 117, 115]⟩, ⟨#[48]⟩, false⟩, ⟨⟨#[58, 115, 116, 97, 116, 117, 115]⟩, ⟨#[49, 50]⟩, false⟩, ⟨⟨#[107, 105, 110, 100]⟩, ⟨#[116, 101, 120, 116]⟩, false⟩, ⟨⟨#[115, 105, 122, 101]⟩, ⟨#[]⟩, false⟩, ⟨⟨#[116, 101]⟩, ⟨#[116, 114, 97, 105, 108, 101, 114, 115]⟩, false⟩]
theorem own_new (w : World) (base : Nat) (e : TypeId) (size n : Nat) (xs : List Value) (hb : base ≤ w.heap.size) (hn : n ≤ maxLen) (hl : xs.length = n * size) : (w.alloc (.cells xs.toArray e)).ownsRow base e size (.slice (some ⟨w.heap.size, 0, none⟩) n n) n xs :=
  ⟨hl, .inr ⟨w.heap.size, n, xs.toArray, rfl, hb, by show (w.heap.push _)[w.heap.size]? = _; simp, Nat.le_refl _, hn, by simp [hl], by simp [← hl]⟩⟩
theorem five_two {w w1 w2 : World} {B : Nat} {x y : Value} (hb : Below w1.heap.size w1 w2) (h0 : w1.cell? ⟨B, 0, none⟩ = some x) (h1 : w1.cell? ⟨B, 1, none⟩ = some y) : w2.cell? ⟨B, 0, none⟩ = some x ∧ w2.cell? ⟨B, 1, none⟩ = some y :=
  ⟨(hb.cell (p := ⟨B, 0, none⟩) (World.block_lt_of_cell? w1 _ h0)).trans h0, (hb.cell (p := ⟨B, 1, none⟩) (World.block_lt_of_cell? w1 _ h1)).trans h1⟩
/-- What TableAt answers of an ok table. -/
def atV (fs : List Fd) (at' : Int) : Fd × Bool := if 1 ≤ at' ∧ at' ≤ 6 + fs.length then ((fixedL ++ fs).getD (at' - 1).toNat ⟨⟨#[]⟩, ⟨#[]⟩, false⟩, true) else (⟨⟨#[]⟩, ⟨#[]⟩, false⟩, false)
theorem results_cell_tmp {fn : Func} {p q : Tmp} {ty : TypeId} (h : fn.results = #[.cell p ty, .tmp q]) (tmps : Array Value) (w : World) (g : Nat) (cs : Array Value)
    (hp : tmps.getD p undef = .pointer (some ⟨g, 0, none⟩)) (hl : (loadVar ty ⟨g, 0, none⟩).run Tryd.prog w = .ok (.agg cs) w) :
    (results fn tmps).run Tryd.prog w = .ok (.tuple #[.agg cs, tmps.getD q undef]) w := by
  have hp' : tmps[p]?.getD undef = .pointer (some ⟨g, 0, none⟩) := by simpa using hp
  simp [results, h, hp', asAddr, hl]
/-- What TableAt answers. -/
def tabAt (fs : List Fd) (max at' : Int) : Fd × Bool := if tOk fs max then atV fs at' else (⟨⟨#[]⟩, ⟨#[]⟩, false⟩, false)
end Go.Proofs.YtghgcobnmmommaaDoor

namespace Go.Proofs.YtghgcobnmmommaaDoor
open Go.RowKit
set_option linter.unusedVariables false

/-- The first place, counted from 1 behind k, of a field with this name; 0 if there is none. -/
def nmP (n : ByteArray) : List Fd → Nat → Nat
  | [], _ => 0
  | x :: t, k => if x.n = n then k + 1 else nmP n t (k + 1)
/-- The first place of all of a field. -/
def flP (f : Fd) : List Fd → Nat → Nat
  | [], _ => 0
  | x :: t, k => if x.n = f.n ∧ x.v = f.v then k + 1 else flP f t (k + 1)
/-- What l3Find answers. -/
def findV (fs : List Fd) (f : Fd) : Nat × Bool := if flP f (fixedL ++ fs) 0 = 0 then (nmP f.n (fixedL ++ fs) 0, false) else (flP f (fixedL ++ fs) 0, true)
theorem nmP_le (n : ByteArray) (l : List Fd) (k : Nat) : nmP n l k ≤ k + l.length := by
  induction l generalizing k with
  | nil => simp [nmP]
  | cons x t ih => unfold nmP; have := ih (k + 1); split <;> simp only [List.length_cons] <;> omega
theorem nmP_at {n : ByteArray} {l : List Fd} {k : Nat} (h : k < l.length) : nmP n (l.drop k) k = if l[k].n = n then k + 1 else nmP n (l.drop (k + 1)) (k + 1) := by
  rw [List.drop_eq_getElem_cons h]; rfl
theorem flP_at {f : Fd} {l : List Fd} {k : Nat} (h : k < l.length) : flP f (l.drop k) k = if l[k].n = f.n ∧ l[k].v = f.v then k + 1 else flP f (l.drop (k + 1)) (k + 1) := by
  rw [List.drop_eq_getElem_cons h]; rfl
theorem keep_fld {w1 w2 : World} {B : Nat} {x y z : Value} (hb : Below w1.heap.size w1 w2) (h0 : w1.cell? ⟨B, 0, none⟩ = some x) (h1 : w1.cell? ⟨B, 1, none⟩ = some y) : w2.cell? ⟨B, 0, none⟩ = some x ∧ w2.cell? ⟨B, 1, none⟩ = some y := five_two (w := w1) hb h0 h1

/-- What TableFind answers. -/
def tabFind (fs : List Fd) (max : Int) (f : Fd) : Nat × Bool := if tOk fs max && fOk f then findV fs f else (0, false)
end Go.Proofs.YtghgcobnmmommaaDoor

namespace Go.Proofs.YtghgcobnmmommaaDoor
open Go.RowKit
set_option linter.unusedVariables false

/-- Whether a head is ok. -/
def hOk (fs : List Fd) : Bool := fs.all fOk && decide (fs.length ≤ 6)
theorem hOk_bad {fs : List Fd} {k : Nat} (h : k < fs.length) (hb : fOk fs[k] = false) : hOk fs = false := by
  unfold hOk
  have : fs.all fOk = false := by
    rw [List.all_eq_false]
    exact ⟨fs[k], List.getElem_mem h, by rw [hb]; decide⟩
  rw [this]; rfl
theorem hOk_good {fs : List Fd} (h : ∀ j (hj : j < fs.length), fOk fs[j] = true) : hOk fs = decide (fs.length ≤ 6) := by
  unfold hOk
  have : fs.all fOk = true := by
    rw [List.all_eq_true]
    intro x hx
    obtain ⟨j, hj, rfl⟩ := List.getElem_of_mem hx
    exact h j hj
  rw [this, Bool.true_and]

/-- What a head has of a name. -/
def getH (fs : List Fd) (nm : ByteArray) : ByteArray × Bool := if hOk fs then (match fs.find? (fun f => f.n.toList == nm.toList) with | some f => (f.v, true) | none => (⟨#[]⟩, false)) else (⟨#[]⟩, false)
/-- A name in bytes; a field in bytes, and the fields of the table behind it; a head. -/
def nameB (p : Nat) (bits : Int) (f : Fd) : ByteArray := if 0 < p then numS p bits 1 else numS 0 bits 1 ++ wrV f.n
def wrF (fs : List Fd) (max : Int) (f : Fd) : List Fd × ByteArray :=
  if f.q then (fs, nameB (findV fs f).1 4 f ++ wrV f.v)
  else if (findV fs f).2 then (fs, numS (findV fs f).1 7 1)
  else (fitL max (⟨f.n, f.v, false⟩ :: fs), nameB (findV fs f).1 6 f ++ wrV f.v)
def wrH : List Fd → Int → List Fd → List Fd × ByteArray
  | fs, _, [] => (fs, ⟨#[]⟩)
  | fs, max, f :: t => ((wrH (wrF fs max f).1 max t).1, (wrF fs max f).2 ++ (wrH (wrF fs max f).1 max t).2)
end Go.Proofs.YtghgcobnmmommaaDoor

namespace Go.Proofs.YtghgcobnmmommaaDoor
open Go.RowKit
set_option linter.unusedVariables false

theorem keepc {w1 w2 : World} {p : Addr} {v : Value} (hb : Below w1.heap.size w1 w2) (h : w1.cell? p = some v) : w2.cell? p = some v := (hb.cell (World.block_lt_of_cell? w1 _ h)).trans h
theorem bt' {w a b : World} (h1 : Below w.heap.size w a) (h2 : Below a.heap.size a b) : Below w.heap.size w b := h1.trans (h2.mono h1.size)
theorem wabs {p : Program} {c : Code} {Q : Exit → Act → World → Prop} {a : Act} {w : World} (P : World → Prop) (h : P w) (k : ∀ W, P W → Code.wp p c Q a W) : Code.wp p c Q a w := k w h
theorem wabsE {K : Act → World → Prop} {Q : Exit → Act → World → Prop} {a : Act} {w : World} (P : World → Prop) (h : P w) (k : ∀ W, P W → Exit.then K Q Exit.normal a W) : Exit.then K Q Exit.normal a w := k w h
theorem row3c {W : World} {B : Nat} {a b c : Value} {t : TypeId} (h : W.heap[B]? = some (.cells #[a, b, c] t (0, 0))) : W.cell? ⟨B, 0, none⟩ = some a ∧ W.cell? ⟨B, 1, none⟩ = some b ∧ W.cell? ⟨B, 2, none⟩ = some c := ⟨cell_of_row _ _ 0 _ _ _ h, cell_of_row _ _ 1 _ _ _ h, cell_of_row _ _ 2 _ _ _ h⟩
theorem row2c {W : World} {B : Nat} {a b : Value} {t : TypeId} (h : W.heap[B]? = some (.cells #[a, b] t (0, 0))) : W.cell? ⟨B, 0, none⟩ = some a ∧ W.cell? ⟨B, 1, none⟩ = some b := ⟨cell_of_row _ _ 0 _ _ _ h, cell_of_row _ _ 1 _ _ _ h⟩
/-- Whether fields are the same. -/
def eqF (x y : Fd) : Bool := (x.n.toList == y.n.toList) && ((x.v.toList == y.v.toList) && (x.q == y.q))
def eqFs : List Fd → List Fd → Bool
  | [], [] => true
  | x :: s, y :: t => eqF x y && eqFs s t
  | _, _ => false
theorem eqB_iff {a b : ByteArray} : (a.toList == b.toList) = true ↔ a = b := by
  constructor
  · intro h
    by_cases e : a = b
    · exact e
    · rw [neF e] at h; cases h
  · exact eqT
theorem eqF_iff {x y : Fd} : eqF x y = true ↔ x = y := by
  unfold eqF
  rw [Bool.and_eq_true, Bool.and_eq_true, eqB_iff, eqB_iff]
  cases x; cases y
  simp
theorem eqFs_iff {s t : List Fd} : eqFs s t = true ↔ s = t := by
  induction s generalizing t with
  | nil => cases t <;> simp [eqFs]
  | cons x s ih =>
    cases t with
    | nil => simp [eqFs]
    | cons y t => simp only [eqFs, Bool.and_eq_true, eqF_iff, ih, List.cons.injEq]
theorem eqFs_self (s : List Fd) : eqFs s s = true := eqFs_iff.2 rfl
theorem eqFs_len {s t : List Fd} (h : s.length ≠ t.length) : eqFs s t = false := by
  cases e : eqFs s t with
  | false => rfl
  | true => rw [eqFs_iff.1 e] at h; exact absurd rfl h
theorem eqFs_at {s t : List Fd} {k : Nat} (h : k < s.length) (h' : k < t.length) : eqFs (s.drop k) (t.drop k) = (eqF s[k] t[k] && eqFs (s.drop (k + 1)) (t.drop (k + 1))) := by
  rw [List.drop_eq_getElem_cons h, List.drop_eq_getElem_cons h']; rfl

end Go.Proofs.YtghgcobnmmommaaDoor
