import Derived.Test.YtdnajdobmlgmiaaCA
import Derived.Test.YtdnajdobmlgmiaaBB
import Derived.Test.YtdnajdobmlgmiaaHR2
import Derived.Deep.MidRow
import Derived.Test.YtdnajdobmlgmiaaCD
namespace Go.Proofs.Ytdnajdobmlgmiaa
open Go.RowKit
set_option linter.unusedVariables false

/-- A row that can be read. -/
structure Rw (w : World) (a : Option Addr) (n cap size : Nat) (xs : List Value) : Prop where
  len : xs.length = n * size
  le : n ≤ cap
  cmax : cap ≤ maxLen
  cells : ∀ g o, a = some ⟨g, o, none⟩ → ∀ j u, xs[j]? = some u → w.cell? ⟨g, o + j, none⟩ = some u
  form : (a = none ∧ n = 0 ∧ cap = 0) ∨ ∃ g o, a = some ⟨g, o, none⟩
theorem Rw.below {w w' : World} {a : Option Addr} {n cap size : Nat} {xs : List Value} (h : Rw w a n cap size xs) (hb : Below w.heap.size w w') : Rw w' a n cap size xs := by
  refine ⟨h.len, h.le, h.cmax, ?_, h.form⟩
  intro g o e j u hu
  have hc := h.cells g o e j u hu
  rw [hb.cell (p := ⟨g, o + j, none⟩) (World.block_lt_of_cell? w _ hc)]
  exact hc
theorem own_Rw {W : World} {base n cap size : Nat} {a : Option Addr} {e : TypeId} {xs : List Value} (h : W.ownsRow base e size (.slice a n cap) n xs) : Rw W a n cap size xs := by
  have hcs := h
  rcases h.2 with ⟨hv, rfl⟩ | ⟨g, c, cur, hv, _, _, h1, h2, _⟩
  · injection hv with e1 e2 e3
    subst e1; subst e3
    exact ⟨h.1, Nat.le_refl _, by unfold maxLen; omega, (by intro g o e; cases e), .inl ⟨rfl, rfl, rfl⟩⟩
  · injection hv with e1 e2 e3
    subst e1; subst e3
    refine ⟨h.1, h1, h2, ?_, .inr ⟨g, 0, rfl⟩⟩
    intro g' o e j u hu
    injection e with e
    injection e with e1 e2
    subst e1; subst e2
    have := hcs.cells (g := g) rfl j u hu
    rwa [Addr.add_lit] at this
def cellsFr (l : List Fr) : List Value := l.flatMap fun f => [.int .i64 f.k, .bool f.l, .int .i64 f.s, .string f.b]
theorem cellsFr_cons (f : Fr) (l : List Fr) : cellsFr (f :: l) = .int .i64 f.k :: .bool f.l :: .int .i64 f.s :: .string f.b :: cellsFr l := by simp [cellsFr]
theorem cellsFr_append (a b : List Fr) : cellsFr (a ++ b) = cellsFr a ++ cellsFr b := by simp [cellsFr]
theorem cellsFr_length (l : List Fr) : (cellsFr l).length = l.length * 4 := by
  induction l with
  | nil => rfl
  | cons f t ih => rw [cellsFr_cons, List.length_cons, List.length_cons, List.length_cons, List.length_cons, ih, List.length_cons]; omega
theorem cellsFr_at (l : List Fr) (k : Nat) (h : k < l.length) : (cellsFr l)[k * 4]? = some (.int .i64 l[k].k) ∧ (cellsFr l)[k * 4 + 1]? = some (.bool l[k].l) ∧ (cellsFr l)[k * 4 + 2]? = some (.int .i64 l[k].s) ∧ (cellsFr l)[k * 4 + 3]? = some (.string l[k].b) := by
  induction l generalizing k with
  | nil => simp at h
  | cons f t ih =>
    cases k with
    | zero => simp [cellsFr_cons]
    | succ k =>
      have := ih k (by simpa using h)
      rw [cellsFr_cons, show (k + 1) * 4 = k * 4 + 1 + 1 + 1 + 1 by omega]
      simpa using this
theorem cellsFr_one (l : List Fr) : ∀ u ∈ cellsFr l, u.oneCell' = true := by
  intro u hu
  obtain ⟨f, _, h⟩ := List.mem_flatMap.1 hu
  simp at h
  rcases h with rfl | rfl | rfl | rfl <;> rfl
/-- A stream in memory, its two heads being slices. -/
def smC (s : Sm) (h g : Value) : List Value := [.int .i64 s.id, .int .i64 s.st, h, .string s.say, .bool s.begun, .bool s.said, .int .i64 s.sent, g, .string s.text, .bool s.heard, .int .i64 s.fl.s, .int .i64 s.fl.r]
/-- What is asked of a slice of fields. -/
abbrev FP := Option Addr → Nat → Nat → List Fd → Prop
/-- Streams in memory, and what is asked of their heads. -/
def SmL (F : FP) : List Sm → List Value → Prop
  | [], xs => xs = []
  | s :: r, xs => ∃ ah nh ch ag ng cg ys, xs = smC s (.slice ah nh ch) (.slice ag ng cg) ++ ys ∧ F ah nh ch s.head ∧ F ag ng cg s.got ∧ SmL F r ys
theorem SmL.mono {F G : FP} (hf : ∀ a n c fs, F a n c fs → G a n c fs) : ∀ {l : List Sm} {xs : List Value}, SmL F l xs → SmL G l xs
  | [], _, h => h
  | _ :: _, _, ⟨ah, nh, ch, ag, ng, cg, ys, e, h1, h2, h3⟩ => ⟨ah, nh, ch, ag, ng, cg, ys, e, hf _ _ _ _ h1, hf _ _ _ _ h2, h3.mono hf⟩
theorem SmL.length {F : FP} : ∀ {l : List Sm} {xs : List Value}, SmL F l xs → xs.length = l.length * 12
  | [], _, h => by rw [show _ = [] from h]; rfl
  | _ :: r, _, ⟨ah, nh, ch, ag, ng, cg, ys, e, _, _, h3⟩ => by
    rw [e, List.length_append, h3.length, List.length_cons]
    show 12 + r.length * 12 = _
    omega
theorem SmL.at {F : FP} : ∀ {l : List Sm} {xs : List Value}, SmL F l xs → ∀ (k : Nat) (s : Sm), l[k]? = some s →
    ∃ ah nh ch ag ng cg, F ah nh ch s.head ∧ F ag ng cg s.got ∧ ∀ j, j < 12 → xs[k * 12 + j]? = (smC s (.slice ah nh ch) (.slice ag ng cg))[j]?
  | [], _, _, _, _, hk => by simp at hk
  | a :: r, xs, ⟨ah, nh, ch, ag, ng, cg, ys, e, h1, h2, h3⟩, k, s, hk => by
    cases k with
    | zero =>
      simp at hk
      subst hk
      refine ⟨ah, nh, ch, ag, ng, cg, h1, h2, fun j hj => ?_⟩
      rw [e, List.getElem?_append_left (by show 0 * 12 + j < 12; omega), Nat.zero_mul, Nat.zero_add]
    | succ k =>
      simp at hk
      obtain ⟨bh, mh, dh, bg, mg, dg, q1, q2, q3⟩ := h3.at k s hk
      refine ⟨bh, mh, dh, bg, mg, dg, q1, q2, fun j hj => ?_⟩
      rw [← q3 j hj, e, List.getElem?_append_right (by show 12 ≤ (k + 1) * 12 + j; omega)]
      congr 1
      show (k + 1) * 12 + j - 12 = _
      omega
theorem SmL.append {F : FP} : ∀ {l : List Sm} {xs : List Value}, SmL F l xs → ∀ {m : List Sm} {ys : List Value}, SmL F m ys → SmL F (l ++ m) (xs ++ ys)
  | [], _, h, _, _, k => by rw [show _ = [] from h]; exact k
  | _ :: _, _, ⟨ah, nh, ch, ag, ng, cg, zs, e, h1, h2, h3⟩, m, ys, k => ⟨ah, nh, ch, ag, ng, cg, zs ++ ys, by rw [e, List.append_assoc], h1, h2, h3.append k⟩
theorem SmL.one {F : FP} {s : Sm} {ah ag : Option Addr} {nh ch ng cg : Nat} (h1 : F ah nh ch s.head) (h2 : F ag ng cg s.got) : SmL F [s] (smC s (.slice ah nh ch) (.slice ag ng cg)) :=
  ⟨ah, nh, ch, ag, ng, cg, [], by simp, h1, h2, rfl⟩
/-- Twelve cells laid anew, from place k on. -/
def put12 (xs : List Value) (k : Nat) (ys : List Value) : List Value := xs.take (k * 12) ++ ys ++ xs.drop (k * 12 + 12)
theorem SmL.set {F : FP} : ∀ {l : List Sm} {xs : List Value}, SmL F l xs → ∀ (k : Nat) (s : Sm), k < l.length → ∀ {ah ag : Option Addr} {nh ch ng cg : Nat}, F ah nh ch s.head → F ag ng cg s.got →
    SmL F (l.set k s) (put12 xs k (smC s (.slice ah nh ch) (.slice ag ng cg)))
  | [], _, _, _, _, hk, _, _, _, _, _, _, _, _ => by simp at hk
  | a :: r, xs, ⟨bh, mh, dh, bg, mg, dg, ys, e, h1, h2, h3⟩, k, s, hk, ah, ag, nh, ch, ng, cg, f1, f2 => by
    cases k with
    | zero =>
      refine ⟨ah, nh, ch, ag, ng, cg, ys, ?_, f1, f2, h3⟩
      unfold put12
      rw [e, Nat.zero_mul, Nat.zero_add, List.take_zero, List.nil_append]
      congr 1
    | succ k =>
      have := h3.set k s (by simpa using hk) f1 f2
      refine ⟨bh, mh, dh, bg, mg, dg, _, ?_, h1, h2, this⟩
      unfold put12
      have e1 : (smC a (.slice bh mh dh) (.slice bg mg dg)).length = 12 := rfl
      rw [e, show (k + 1) * 12 = 12 + k * 12 by omega, show 12 + k * 12 + 12 = 12 + (k * 12 + 12) by omega, List.take_append, List.drop_append, e1, Nat.add_sub_cancel_left, Nat.add_sub_cancel_left,
        List.take_of_length_le (by rw [e1]; omega), List.drop_of_length_le (by rw [e1]; omega), List.nil_append, List.append_assoc, List.append_assoc]
      simp [List.append_assoc]
/-- The cells of an end. -/
def edC (e : Ed) (o i s w : Value) : Array Value := #[.bool e.ans, o, .int .i64 e.outM, i, .int .i64 e.innM, .string e.came, s, .int .i64 e.fl.s, .int .i64 e.fl.r, w, .bool e.bad]
/-- An end in memory: what is asked of slices of fields, of the row of streams, and of the row of frames. -/
structure EdG (F : FP) (S R : Value → Nat → List Value → Prop) (e : Ed) (o i s q : Value) : Prop where
  out : ∃ a n c, o = .slice a n c ∧ F a n c e.out
  inn : ∃ a n c, i = .slice a n c ∧ F a n c e.inn
  sts : ∃ xs, S s e.sts.length xs ∧ SmL F e.sts xs
  wait : R q e.wait.length (cellsFr e.wait)
theorem EdG.mono {F G : FP} {S S' R R' : Value → Nat → List Value → Prop} (hF : ∀ a n c fs, F a n c fs → G a n c fs) (hS : ∀ v n xs, S v n xs → S' v n xs) (hR : ∀ v n xs, R v n xs → R' v n xs) {e : Ed} {o i s q : Value} (h : EdG F S R e o i s q) : EdG G S' R' e o i s q := by
  obtain ⟨⟨a1, n1, c1, e1, h1⟩, ⟨a2, n2, c2, e2, h2⟩, ⟨xs, h3, h3'⟩, h4⟩ := h
  exact ⟨⟨a1, n1, c1, e1, hF _ _ _ _ h1⟩, ⟨a2, n2, c2, e2, hF _ _ _ _ h2⟩, ⟨xs, hS _ _ _ h3, h3'.mono hF⟩, hR _ _ _ h4⟩
/-- A slice whose row can be read. -/
def RdRow (w : World) (size : Nat) (v : Value) (n : Nat) (xs : List Value) : Prop := ∃ a c, v = .slice a n c ∧ Rw w a n c size xs
theorem RdRow.below {w w' : World} {size n : Nat} {v : Value} {xs : List Value} (h : RdRow w size v n xs) (hb : Below w.heap.size w w') : RdRow w' size v n xs := by
  obtain ⟨a, c, e, k⟩ := h
  exact ⟨a, c, e, k.below hb⟩
/-- An end that can be read. -/
abbrev EdV (w : World) (e : Ed) (o i s q : Value) : Prop := EdG (Fs w) (RdRow w 12) (RdRow w 4) e o i s q
theorem EdV.below {w w' : World} {e : Ed} {o i s q : Value} (h : EdV w e o i s q) (hb : Below w.heap.size w w') : EdV w' e o i s q :=
  EdG.mono (fun _ _ _ _ k => k.below hb) (fun _ _ _ k => k.below hb) (fun _ _ _ k => k.below hb) h
/-- Fields that can be read, and lie in no row of these. -/
def FsX (w : World) (X : Nat → Prop) : FP := fun a n c fs => Fs w a n c fs ∧ (0 < n → ∀ g o, a = some ⟨g, o, none⟩ → ¬ X g)
/-- The blocks of two rows. -/
def rowsX (s q : Value) : Nat → Prop := fun g => some g = s.ownBlock ∨ some g = q.ownBlock
/-- An end whose streams and frames lie in rows of its own, none of its fields in these. -/
abbrev EdO (w : World) (base : Nat) (e : Ed) (o i s q : Value) : Prop :=
  EdG (FsX w (rowsX s q)) (fun v n xs => w.ownsRow base 70 12 v n xs) (fun v n xs => w.ownsRow base 73 4 v n xs) e o i s q
theorem ownsRow_Rd {w : World} {base size n : Nat} {t : TypeId} {v : Value} {xs : List Value} (h : w.ownsRow base t size v n xs) : RdRow w size v n xs := by
  obtain ⟨a, c, rfl⟩ := own_formT h
  exact ⟨a, c, rfl, own_Rw h⟩
theorem EdO.read {w : World} {base : Nat} {e : Ed} {o i s q : Value} (h : EdO w base e o i s q) : EdV w e o i s q :=
  EdG.mono (fun _ _ _ _ k => k.1) (fun _ _ _ k => ownsRow_Rd k) (fun _ _ _ k => ownsRow_Rd k) h
theorem EdO.below {w w' : World} {base : Nat} {e : Ed} {o i s q : Value} (h : EdO w base e o i s q) (hb : Below w.heap.size w w') : EdO w' base e o i s q :=
  EdG.mono (fun _ _ _ _ k => ⟨k.1.below hb, k.2⟩) (fun _ _ _ k => own_belowT k hb) (fun _ _ _ k => own_belowT k hb) h
end Go.Proofs.Ytdnajdobmlgmiaa

namespace Go.Proofs.Ytdnajdobmlgmiaa
open Go.RowKit
set_option linter.unusedVariables false

/-- Of the blocks that were there just those in X may have turned. -/
structure Kp (X : Nat → Prop) (w w' : World) : Prop where
  os : w'.os = w.os
  tape : w'.tape = w.tape
  output : w'.output = w.output
  size : w.heap.size ≤ w'.heap.size
  block : ∀ k, k < w.heap.size → ¬ X k → w'.heap[k]? = w.heap[k]?
theorem Kp.refl (X : Nat → Prop) (w : World) : Kp X w w := ⟨rfl, rfl, rfl, Nat.le_refl _, fun _ _ _ => rfl⟩
theorem Kp.of_below {X : Nat → Prop} {w w' : World} (h : Below w.heap.size w w') : Kp X w w' := ⟨h.os, h.tape, h.output, h.size, fun k hk _ => h.block k hk⟩
theorem Kp.mono {X Y : Nat → Prop} {w w' : World} (h : Kp X w w') (hxy : ∀ g, X g → Y g) : Kp Y w w' := ⟨h.os, h.tape, h.output, h.size, fun k hk hn => h.block k hk (fun hx => hn (hxy k hx))⟩
/-- Then on: what may turn behind is of what may turn, or new. -/
theorem Kp.then {X Y : Nat → Prop} {w w1 w2 : World} (h : Kp X w w1) (k : Kp Y w1 w2) (hy : ∀ g, Y g → X g ∨ w.heap.size ≤ g) : Kp X w w2 :=
  ⟨k.os.trans h.os, k.tape.trans h.tape, k.output.trans h.output, Nat.le_trans h.size k.size, fun g hg hx =>
    (k.block g (Nat.lt_of_lt_of_le hg h.size) (fun hyg => (hy g hyg).elim hx (fun hge => by omega))).trans (h.block g hg hx)⟩
theorem Kp.to_below {X : Nat → Prop} {w w' : World} {B : Nat} (h : Kp X w w') (hB : B ≤ w.heap.size) (hX : ∀ g, X g → B ≤ g) : Below B w w' :=
  ⟨h.os, h.tape, h.output, h.size, fun k hk => h.block k (by omega) (fun hx => by have := hX k hx; omega)⟩
theorem Kp.below {X : Nat → Prop} {w w' w'' : World} (h : Kp X w w') (k : Below w'.heap.size w' w'') : Kp X w w'' :=
  ⟨k.os.trans h.os, k.tape.trans h.tape, k.output.trans h.output, Nat.le_trans h.size k.size, fun g hg hx => (k.block g (Nat.lt_of_lt_of_le hg h.size)).trans (h.block g hg hx)⟩
theorem Kp.cell {X : Nat → Prop} {w w' : World} (h : Kp X w w') {p : Addr} {v : Value} (hc : w.cell? p = some v) (hn : ¬ X p.block) : w'.cell? p = some v :=
  (World.cell?_of_block (h.block p.block (World.block_lt_of_cell? w _ hc) hn)).trans hc
theorem Kp.blk {X : Nat → Prop} {w w' : World} (h : Kp X w w') {B : Nat} {o : Obj} (hB : w.heap[B]? = some o) (hn : ¬ X B) : w'.heap[B]? = some o :=
  (h.block B (Array.getElem?_eq_some_iff.1 hB).1 hn).trans hB
theorem Kp.fs {X : Nat → Prop} {w w' : World} (h : Kp X w w') {a : Option Addr} {n c : Nat} {fs : List Fd} (hf : FsX w X a n c fs) : Fs w' a n c fs := by
  obtain ⟨hf, hx⟩ := hf
  refine ⟨hf.len, hf.le, hf.cmax, ?_, hf.some', hf.form⟩
  intro g o e j u hu
  have hc := hf.cells g o e j u hu
  refine h.cell hc (hx ?_ g o e)
  rcases Nat.eq_zero_or_pos n with hz | hz
  · have := hf.len
    have e : fs = [] := List.eq_nil_of_length_eq_zero (by omega)
    rw [e] at hu
    simp [cellsF] at hu
  · exact hz
theorem Kp.own {X : Nat → Prop} {w w' : World} (h : Kp X w w') {base : Nat} {e : TypeId} {size n : Nat} {v : Value} {xs : List Value} (ho : w.ownsRow base e size v n xs) (hx : ∀ g, v.ownBlock = some g → ¬ X g) : w'.ownsRow base e size v n xs := by
  refine ⟨ho.1, ?_⟩
  rcases ho.2 with hn | ⟨g, cap, cur, rfl, hb, hgg, rest⟩
  · exact .inl hn
  · exact .inr ⟨g, cap, cur, rfl, hb, h.blk hgg (hx g rfl), rest⟩
theorem Kp.grown {X : Nat → Prop} {w w' : World} {row : Option Nat} (hg : w.grownBy w' row) (hr : ∀ g, row = some g → X g) : Kp X w w' :=
  ⟨hg.os, hg.tape, hg.output, hg.size, fun k hk hn => hg.block k hk (fun e => hn (hr k e.symm))⟩
theorem Kp.setCell {X : Nat → Prop} {w : World} (p : Addr) (v : Value) (hp : X p.block) : Kp X w (w.setCell p v) :=
  ⟨rfl, rfl, rfl, by simp [World.setCell], fun k hk hn => Below.heap_setCell _ _ _ _ (fun e => hn (by rw [e]; exact hp))⟩
theorem Kp.setCells {X : Nat → Prop} (b : Nat) (hp : X b) : ∀ (vs : List Value) (o : Nat) (w : World), Kp X w (w.setCells b o vs)
  | [], _, w => Kp.refl _ _
  | v :: r, o, w => (Kp.setCell (w := w) ⟨b, o, none⟩ v hp).then (Kp.setCells b hp r (o + 1) _) (fun g hg => .inl hg)
/-- So many cells laid anew, from a place on. -/
def putL (xs : List Value) (o : Nat) (vs : List Value) : List Value := xs.take o ++ vs ++ xs.drop (o + vs.length)
theorem putL_length {xs vs : List Value} {o : Nat} (h : o + vs.length ≤ xs.length) : (putL xs o vs).length = xs.length := by
  unfold putL
  simp only [List.length_append, List.length_take, List.length_drop]
  omega
theorem putL_get {xs vs : List Value} {o : Nat} (h : o + vs.length ≤ xs.length) (j : Nat) : (putL xs o vs)[j]? = if j < o then xs[j]? else if j < o + vs.length then vs[j - o]? else xs[j]? := by
  unfold putL
  have hl : (xs.take o).length = o := by rw [List.length_take]; omega
  by_cases h1 : j < o
  · rw [if_pos h1, List.append_assoc, List.getElem?_append_left (by omega), List.getElem?_take, if_pos h1]
  · rw [if_neg h1]
    by_cases h2 : j < o + vs.length
    · rw [if_pos h2, List.append_assoc, List.getElem?_append_right (by omega), hl, List.getElem?_append_left (by omega)]
    · rw [if_neg h2, List.getElem?_append_right (by rw [List.length_append]; omega), List.length_append, hl, List.getElem?_drop]
      congr 1
      omega
theorem put12_putL (xs : List Value) (k : Nat) (ys : List Value) (h : ys.length = 12) : put12 xs k ys = putL xs (k * 12) ys := by
  unfold put12 putL
  rw [h]
theorem setCells_heap (g : Nat) (t : TypeId) : ∀ (vs : List Value) (o : Nat) (w : World) (cur : Array Value), w.heap[g]? = some (.cells cur t (0, 0)) → o + vs.length ≤ cur.size → (w.setCells g o vs).heap[g]? = some (.cells (putL cur.toList o vs).toArray t (0, 0))
  | [], o, w, cur, h, hl => by
    show w.heap[g]? = _
    rw [h]
    simp [putL]
  | v :: r, o, w, cur, h, hl => by
    have h1 : (w.setCell ⟨g, o, none⟩ v).heap[g]? = some (.cells (cur.setIfInBounds o v) t (0, 0)) := by
      obtain ⟨hlt, hk⟩ := Array.getElem?_eq_some_iff.1 h
      show (w.heap.modify g _)[g]? = _
      rw [Array.getElem?_eq_getElem (by rw [Array.size_modify]; exact hlt), Array.getElem_modify_self, hk]
      rfl
    rw [List.length_cons] at hl
    have h2 := setCells_heap g t r (o + 1) (w.setCell ⟨g, o, none⟩ v) (cur.setIfInBounds o v) h1 (by rw [Array.size_setIfInBounds]; omega)
    show ((w.setCell ⟨g, o, none⟩ v).setCells g (o + 1) r).heap[g]? = _
    rw [h2]
    congr 2
    congr 1
    apply List.ext_getElem?
    intro j
    have k1 : (cur.setIfInBounds o v).toList.length = cur.size := by rw [Array.length_toList, Array.size_setIfInBounds]
    have k2 : cur.toList.length = cur.size := Array.length_toList
    have k3 : (v :: r).length = r.length + 1 := rfl
    rw [putL_get (xs := (cur.setIfInBounds o v).toList) (vs := r) (o := o + 1) (by omega), putL_get (xs := cur.toList) (vs := v :: r) (o := o) (by omega)]
    simp only [Array.getElem?_toList, Array.getElem?_setIfInBounds, List.length_cons]
    by_cases c1 : j < o
    · rw [if_pos (by omega), if_pos c1, if_neg (by omega)]
    · rw [if_neg c1]
      by_cases c2 : j = o
      · subst c2
        rw [if_pos (by omega), if_pos rfl, if_pos (by omega), if_pos (by omega), Nat.sub_self]
        rfl
      · rw [if_neg (by omega)]
        by_cases c3 : j < o + 1 + r.length
        · rw [if_pos c3, if_pos (by omega), show j - o = (j - (o + 1)) + 1 by omega, List.getElem?_cons_succ]
        · rw [if_neg c3, if_neg (by omega), if_neg (by omega)]
theorem own_setCells {w : World} {base size n cap : Nat} {e : TypeId} {g : Nat} {xs vs : List Value} {o : Nat} (h : w.ownsRow base e size (.slice (some ⟨g, 0, none⟩) n cap) n xs) (hl : o + vs.length ≤ xs.length) :
    (w.setCells g o vs).ownsRow base e size (.slice (some ⟨g, 0, none⟩) n cap) n (putL xs o vs) := by
  have h1 := h.1
  refine ⟨by rw [putL_length hl]; exact h1, ?_⟩
  rcases h.2 with ⟨hv, _⟩ | ⟨g', c, cur, hv, hb, hg, hn, hm, hs, ht⟩
  · injection hv with e1; cases e1
  · injection hv with e1 e2 e3
    injection e1 with e1
    injection e1 with e1
    subst e1; subst e3
    have hle : n * size ≤ cur.size := by rw [hs]; exact Nat.mul_le_mul_right _ hn
    have hcl : cur.toList.length = cur.size := Array.length_toList
    refine .inr ⟨g, cap, _, rfl, hb, setCells_heap g e vs o w cur hg (by omega), hn, hm, ?_, ?_⟩
    · rw [List.size_toArray, putL_length (xs := cur.toList) (vs := vs) (o := o) (by omega), hcl, hs]
    · rw [← ht]
      apply List.ext_getElem?
      intro j
      have hl2 : o + vs.length ≤ (cur.toList.take (n * size)).length := by rw [ht]; exact hl
      show (putL cur.toList o vs |>.take (n * size))[j]? = _
      rw [putL_get hl2, List.getElem?_take, putL_get (xs := cur.toList) (vs := vs) (o := o) (by omega), List.getElem?_take]
      by_cases c : j < n * size
      · rw [if_pos c, if_pos c]
      · rw [if_neg c, if_neg c]
        have : n * size = xs.length := h1.symm
        rw [if_neg (by omega), if_neg (by omega)]
theorem own_there {w : World} {base size n cap : Nat} {e : TypeId} {g : Nat} {xs : List Value} {o m : Nat} (h : w.ownsRow base e size (.slice (some ⟨g, 0, none⟩) n cap) n xs) (hl : o + m ≤ xs.length) : w.there g o m := by
  intro j hj
  have hx : ∃ u, xs[o + j]? = some u := ⟨_, List.getElem?_eq_getElem (by omega)⟩
  obtain ⟨u, hu⟩ := hx
  have hc := h.cells (g := g) rfl (o + j) u hu
  rw [Addr.add_mid, Nat.zero_add] at hc
  refine ⟨by rw [hc]; rfl, ?_⟩
  rcases h.2 with ⟨hv, _⟩ | ⟨g', c, cur, hv, hb, hg, _⟩
  · injection hv with e1; cases e1
  · injection hv with e1 e2 e3
    injection e1 with e1
    injection e1 with e1
    subst e1
    simp [World.frozen?, hg]
theorem own_range {w : World} {base size n cap : Nat} {e : TypeId} {g : Nat} {xs ys : List Value} {o : Nat} (h : w.ownsRow base e size (.slice (some ⟨g, 0, none⟩) n cap) n xs) (hy : ∀ j, j < ys.length → xs[o + j]? = ys[j]?) : w.rangeAt g o ys := by
  intro j v hv
  have hj := (List.getElem?_eq_some_iff.1 hv).1
  have := h.cells (g := g) rfl (o + j) v (by rw [hy j hj]; exact hv)
  rwa [Addr.add_mid, Nat.zero_add] at this
/-- Single cells of a stream, laid anew. -/
theorem putL_smC {xs : List Value} {k : Nat} {s : Sm} {h g : Value} (hl : k * 12 + 12 ≤ xs.length) (hc : ∀ j, j < 12 → xs[k * 12 + j]? = (smC s h g)[j]?) {o : Nat} {vs : List Value} {t : Sm} {h' g' : Value} (ho : o + vs.length ≤ 12) (ht : smC t h' g' = putL (smC s h g) o vs) :
    putL xs (k * 12 + o) vs = putL xs (k * 12) (smC t h' g') := by
  have e12 : (smC t h' g').length = 12 := rfl
  have f12 : (smC s h g).length = 12 := rfl
  apply List.ext_getElem?
  intro j
  rw [putL_get (xs := xs) (vs := vs) (o := k * 12 + o) (by omega), putL_get (xs := xs) (vs := smC t h' g') (o := k * 12) (by omega), e12, ht]
  by_cases c1 : j < k * 12
  · rw [if_pos (by omega), if_pos c1]
  · rw [if_neg c1]
    by_cases c2 : j < k * 12 + 12
    · rw [if_pos c2, putL_get (xs := smC s h g) (vs := vs) (o := o) (by omega)]
      have hcj := hc (j - k * 12) (by omega)
      rw [show k * 12 + (j - k * 12) = j by omega] at hcj
      by_cases d1 : j < k * 12 + o
      · rw [if_pos d1, if_pos (show j - k * 12 < o by omega), hcj]
      · rw [if_neg d1, if_neg (show ¬ j - k * 12 < o by omega)]
        by_cases d2 : j < k * 12 + o + vs.length
        · rw [if_pos d2, if_pos (show j - k * 12 < o + vs.length by omega)]
          congr 1
          omega
        · rw [if_neg d2, if_neg (show ¬ j - k * 12 < o + vs.length by omega), hcj]
    · rw [if_neg c2, if_neg (by omega), if_neg (by omega)]
/-- An end whose rows are its own, none of its blocks in X. -/
structure EdQ (w : World) (base : Nat) (X : Nat → Prop) (e : Ed) (o i s q : Value) : Prop where
  g : EdG (FsX w (fun g => rowsX s q g ∨ X g)) (fun v n xs => w.ownsRow base 70 12 v n xs) (fun v n xs => w.ownsRow base 73 4 v n xs) e o i s q
  off : ∀ g, rowsX s q g → ¬ X g
theorem EdQ.read {w : World} {base : Nat} {X : Nat → Prop} {e : Ed} {o i s q : Value} (h : EdQ w base X e o i s q) : EdV w e o i s q :=
  EdG.mono (fun _ _ _ _ k => k.1) (fun _ _ _ k => ownsRow_Rd k) (fun _ _ _ k => ownsRow_Rd k) h.g
theorem FsX.below {w w' : World} {X : Nat → Prop} {a : Option Addr} {n c : Nat} {fs : List Fd} (h : FsX w X a n c fs) (hb : Below w.heap.size w w') : FsX w' X a n c fs := ⟨h.1.below hb, h.2⟩
theorem EdQ.below {w w' : World} {base : Nat} {X : Nat → Prop} {e : Ed} {o i s q : Value} (h : EdQ w base X e o i s q) (hb : Below w.heap.size w w') : EdQ w' base X e o i s q :=
  ⟨EdG.mono (fun _ _ _ _ k => FsX.below k hb) (fun _ _ _ k => own_belowT k hb) (fun _ _ _ k => own_belowT k hb) h.g, h.off⟩
/-- What turns elsewhere leaves it. -/
theorem EdQ.kept {w w' : World} {base : Nat} {X Y : Nat → Prop} {e : Ed} {o i s q : Value} (h : EdQ w base X e o i s q) (hk : Kp Y w w') (hy : ∀ g, Y g → g < w.heap.size → X g) : EdQ w' base X e o i s q := by
  refine ⟨EdG.mono (F := FsX w (fun g => rowsX s q g ∨ X g)) ?_ ?_ ?_ (R := fun v n xs => w.ownsRow base 73 4 v n xs ∧ v = q) (S := fun v n xs => w.ownsRow base 70 12 v n xs ∧ v = s) ?_, h.off⟩
  · intro a n c fs hf
    have hf2 : FsX w Y a n c fs := ⟨hf.1, fun hn g o e hyg => hf.2 hn g o e (.inr (hy g hyg (hf.1.lt2 g o e hn)))⟩
    exact ⟨hk.fs hf2, hf.2⟩
  · rintro v n xs ⟨hv, rfl⟩
    exact hk.own hv (fun g e hyg => h.off g (.inl e.symm) (hy g hyg (hv.lt g e).2))
  · rintro v n xs ⟨hv, rfl⟩
    exact hk.own hv (fun g e hyg => h.off g (.inr e.symm) (hy g hyg (hv.lt g e).2))
  · obtain ⟨h1, h2, ⟨xs, h3, h3'⟩, h4⟩ := h.g
    exact ⟨h1, h2, ⟨xs, ⟨h3, rfl⟩, h3'⟩, h4, rfl⟩
theorem EdQ.lt {w : World} {base : Nat} {X : Nat → Prop} {e : Ed} {o i s q : Value} (h : EdQ w base X e o i s q) : ∀ g, rowsX s q g → base ≤ g ∧ g < w.heap.size := by
  obtain ⟨h1, h2, ⟨xs, h3, h3'⟩, h4⟩ := h.g
  rintro g (hg | hg)
  · exact h3.lt g hg.symm
  · exact h4.lt g hg.symm
/-- From a world in which an end stands to one in which another does: its rows are the same ones, or new, and no others turned. -/
structure Lin (w : World) (s q : Value) (w' : World) (s' q' : Value) : Prop where
  kp : Kp (rowsX s q) w w'
  rows : ∀ g, rowsX s' q' g → rowsX s q g ∨ w.heap.size ≤ g
theorem Lin.refl (w : World) (s q : Value) : Lin w s q w s q := ⟨Kp.refl _ _, fun g h => .inl h⟩
theorem Lin.then {w w1 w2 : World} {s q s1 q1 s2 q2 : Value} (h : Lin w s q w1 s1 q1) (k : Lin w1 s1 q1 w2 s2 q2) : Lin w s q w2 s2 q2 := by
  refine ⟨h.kp.then k.kp h.rows, fun g hg => ?_⟩
  rcases k.rows g hg with c | c
  · exact h.rows g c
  · exact .inr (Nat.le_trans h.kp.size c)
theorem Lin.below {w w1 : World} {s q : Value} (h : Below w.heap.size w w1) : Lin w s q w1 s q := ⟨Kp.of_below h, fun g h => .inl h⟩
theorem Lin.off {w w1 : World} {s q s1 q1 : Value} (h : Lin w s q w1 s1 q1) {X : Nat → Prop} (hX : ∀ g, X g → g < w.heap.size) (ho : ∀ g, rowsX s q g → ¬ X g) : ∀ g, rowsX s1 q1 g → ¬ X g := by
  intro g hg hx
  rcases h.rows g hg with c | c
  · exact ho g c hx
  · have := hX g hx; omega
theorem rowsX_ne {w : World} {base : Nat} {n m : Nat} {s q : Value} {xs ys : List Value} (hs : w.ownsRow base 70 12 s n xs) (hq : w.ownsRow base 73 4 q m ys) : ∀ g, s.ownBlock = some g → q.ownBlock ≠ some g := by
  intro g e1 e2
  rcases hs.2 with ⟨rfl, _⟩ | ⟨g1, c1, cur1, rfl, _, h1, _⟩
  · cases e1
  · rcases hq.2 with ⟨rfl, _⟩ | ⟨g2, c2, cur2, rfl, _, h2, _⟩
    · cases e2
    · have e3 : g1 = g := by injection e1
      have e4 : g2 = g := by injection e2
      subst e3; subst e4
      rw [h1] at h2
      injection h2 with h2
      injection h2 with _ h2 _
      exact absurd h2 (by decide)
end Go.Proofs.Ytdnajdobmlgmiaa

namespace Go.Proofs.Ytdnajdobmlgmiaa
open Go.RowKit
set_option linter.unusedVariables false

theorem Fs_nilE (w : World) (g : Nat) : Fs w (some ⟨g, 0, none⟩) 0 0 [] :=
  ⟨rfl, Nat.le_refl _, by unfold maxLen; omega, (by intro g' o e j u hu; simp [cellsF] at hu), (by intro h; omega), .inr ⟨g, 0, rfl⟩⟩
theorem infoT2e : (Try.prog.info? 24).map (·.size) = some 2 := by kernel_rfl
theorem load_tabE {w : World} {g : Nat} {x y : Value} (hg : w.heap[g]? = some (.cells #[x, y] 24 (0, 0))) : (loadVar 24 ⟨g, 0, none⟩).run Try.prog w = .ok (.agg #[x, y]) w :=
  run_loadVar_row w g 24 24 #[x, y] (0, 0) _ hg Try.underlying24 rfl infoT2e

theorem blkTE {W : World} {B : Nat} {o : Obj} (h : W.heap[B]? = some o) (o' : Obj) : (W.alloc o').heap[B]? = some o := blkF ((Below.refl _ _).alloc (Nat.le_refl _) _) h
set_option maxRecDepth 100000 in
set_option maxHeartbeats 1000000 in
theorem l21Table_any (w : World) :
    Calls Try.prog 23 #[] w fun e w' => ∃ g, e = .returned (.agg #[.slice (some ⟨g, 0, none⟩) 0 0, .int .i64 64]) ∧ w.heap.size ≤ g ∧ Below w.heap.size w w' := by
  go_enter Try.func23, Try.ntmps23
  go_wp2
  refine bodyPost_ret (results_cW rfl _ _ w.heap.size #[.slice (some ⟨w.heap.size + 1, 0, none⟩) 0 0, .int .i64 64] rfl (load_tabE (blkTE (heap_alloc_last w _) _))) rfl ⟨w.heap.size + 1, rfl, by omega, by go_grown⟩
theorem infoSm : (Try.prog.info? 70).map (·.size) = some 12 := by kernel_rfl
theorem load_sm {w : World} {g : Nat} {cs : Array Value} (hg : w.heap[g]? = some (.cells cs 70 (0, 0))) (hs : cs.size = 12) : (loadVar 70 ⟨g, 0, none⟩).run Try.prog w = .ok (.agg cs) w :=
  run_loadVar_row w g 70 70 cs (0, 0) _ hg Try.underlying70 rfl (by rw [hs]; exact infoSm)
theorem infoEd : (Try.prog.info? 30).map (·.size) = some 11 := by kernel_rfl
theorem load_ed {w : World} {g : Nat} {cs : Array Value} (hg : w.heap[g]? = some (.cells cs 30 (0, 0))) (hs : cs.size = 11) : (loadVar 30 ⟨g, 0, none⟩).run Try.prog w = .ok (.agg cs) w :=
  run_loadVar_row w g 30 30 cs (0, 0) _ hg Try.underlying30 rfl (by rw [hs]; exact infoEd)
theorem own_zeroE (w : World) (e : TypeId) (size : Nat) : (w.alloc (.cells #[] e)).ownsRow w.heap.size e size (.slice (some ⟨w.heap.size, 0, none⟩) 0 0) 0 [] :=
  ⟨by simp, .inr ⟨w.heap.size, 0, #[], rfl, Nat.le_refl _, by show (w.heap.push _)[w.heap.size]? = _; simp, Nat.le_refl _, by decide, by simp, by simp⟩⟩
theorem setRow_otherE {w : World} {g B : Nat} {o : Obj} (cs : Array Value) (h : w.heap[B]? = some o) (hne : B ≠ g) : (w.setRow g cs).heap[B]? = some o :=
  ((grown_setRowT w g cs).block B (Array.getElem?_eq_some_iff.1 h).1 (fun e => hne (by injection e))).trans h
theorem bel_setRowE {w0 w : World} {B g : Nat} (cs : Array Value) (h : Below B w0 w) (hB : B ≤ w.heap.size) (hg : B ≤ g) : Below B w0 (w.setRow g cs) :=
  h.grown (grown_setRowT w g cs) hB (fun q hq => by injection hq with hq; omega)
theorem own_setRowE {w : World} {base g n size : Nat} {e : TypeId} {v : Value} {xs : List Value} (cs : Array Value) (h : w.ownsRow base e size v n xs) (hne : some g ≠ v.ownBlock) : (w.setRow g cs).ownsRow base e size v n xs :=
  h.kept (grown_setRowT w g cs) (.inr (fun e' => hne e'.symm))
abbrev zEdC : Array Value := #[.bool false, .slice none 0 0, .int .i64 0, .slice none 0 0, .int .i64 0, .string ⟨#[]⟩, .slice none 0 0, .int .i64 0, .int .i64 0, .slice none 0 0, .bool false]
set_option maxRecDepth 100000 in
set_option maxHeartbeats 1000000 in
theorem specEndNew (a : Bool) (w : World) :
    Calls Try.prog 14 #[.bool a] w fun e w' => ∃ o i s q, e = .returned (.agg (edC (edNew a) o i s q)) ∧ EdO w' w.heap.size (edNew a) o i s q ∧ Below w.heap.size w w' := by
  have hB : Below w.heap.size w (w.alloc (.cells zEdC 30)) := (Below.refl _ _).alloc (Nat.le_refl _) _
  have hR : (w.alloc (.cells zEdC 30)).heap[w.heap.size]? = some (.cells zEdC 30 (0, 0)) := heap_alloc_last w _
  have HR : Hid _ := hR
  clear hR
  go_enter Try.func14, Try.ntmps14
  go_wp2_with fail
  refine (l21Table_any _).mono ?_
  rintro e w1 ⟨g1, rfl, hg1, hb1⟩
  have HR1 : Hid _ := blkF hb1 HR.out
  replace hB := btF hB hb1
  clear HR hb1
  go_wp2_with fail
  refine (l21Table_any _).mono ?_
  rintro e w2 ⟨g2, rfl, hg2, hb2⟩
  have HR2 : Hid _ := blkF hb2 HR1.out
  replace hB := btF hB hb2
  have hz2 := hb2.size
  clear HR1 hb2
  rw [World.size_alloc] at hg1
  have hlt : w.heap.size < w2.heap.size := (Array.getElem?_eq_some_iff.1 HR2.out).1
  have hb3 : Below w2.heap.size w2 (w2.alloc (.cells #[] 70)) := (Below.refl _ _).alloc (Nat.le_refl _) _
  have hb4 : Below (w2.alloc (.cells #[] 70)).heap.size (w2.alloc (.cells #[] 70)) ((w2.alloc (.cells #[] 70)).alloc (.cells #[] 73)) := (Below.refl _ _).alloc (Nat.le_refl _) _
  have HR4 : Hid (((w2.alloc (.cells #[] 70)).alloc (.cells #[] 73)).heap[w.heap.size]? = some (.cells zEdC 30 (0, 0))) := blkF hb4 (blkF hb3 HR2.out)
  have hS := own_belowT (own_zeroE w2 70 12) hb4
  have hQ := own_zeroE (w2.alloc (.cells #[] 70)) 73 4
  rw [World.size_alloc] at hQ
  have hB4 := btF (btF hB hb3) hb4
  clear hb3 hb4 HR2 hB
  go_wp2_with (refine wpList_store_row rfl 30 _ _ rfl w.heap.size (edC (edNew a) (.slice (some ⟨g1, 0, none⟩) 0 0) (.slice (some ⟨g2, 0, none⟩) 0 0) (.slice (some ⟨w2.heap.size, 0, none⟩) 0 0) (.slice (some ⟨w2.heap.size + 1, 0, none⟩) 0 0)) rfl rfl 30 _ HR4.out infoEd rfl (by simp [edC, Value.oneCell']) ?_)
  refine bodyPost_ret (results_cW rfl _ _ w.heap.size _ rfl (load_ed (setRow_heap _ _ _ _ _ _ HR4.out) rfl)) rfl ⟨_, _, _, _, rfl, ?_, bel_setRowE _ hB4 hB4.size (Nat.le_refl _)⟩
  refine ⟨⟨_, _, _, rfl, Fs_nilE _ _, by intro h; omega⟩, ⟨_, _, _, rfl, Fs_nilE _ _, by intro h; omega⟩, ⟨[], own_setRowE _ (own_baseT hS (by omega)) ?_, rfl⟩, own_setRowE _ (own_baseT hQ (by omega)) ?_⟩
  · simp [Value.ownBlock]; omega
  · simp [Value.ownBlock]; omega
end Go.Proofs.Ytdnajdobmlgmiaa

namespace Go.Proofs.Ytdnajdobmlgmiaa
open Go.RowKit
set_option linter.unusedVariables false

theorem cellE {W : World} {B : Nat} {cs : Array Value} {t : TypeId} (h : W.heap[B]? = some (.cells cs t (0, 0))) (j : Nat) (v : Value) (hv : cs[j]? = some v) : W.cell? ⟨B, j, none⟩ = some v := by
  simp [World.cell?, h, hv]
/-- Sizes that can be told. -/
structure SmBd (s : Sm) : Prop where
  hb : fsBd s.head
  hl : s.head.length ≤ 1048576
  gb : fsBd s.got
  gl : s.got.length ≤ 1048576
  say : s.say.size ≤ maxLen
  text : s.text.size ≤ maxLen

set_option maxRecDepth 100000 in
set_option maxHeartbeats 4000000 in
theorem l21Stream_any (s : Sm) (ah ag : Option Addr) (nh ch ng cg : Nat) (w : World) (fh : Fs w ah nh ch s.head) (fg : Fs w ag ng cg s.got) (hbd : SmBd s) :
    Calls Try.prog 37 #[.agg (smC s (.slice ah nh ch) (.slice ag ng cg)).toArray] w fun e w' => e = .returned (.bool (smOk s)) ∧ Below w.heap.size w w' := by
  have hsz := hbd.say
  unfold maxLen at hsz
  have hB : Below w.heap.size w (w.alloc (.cells (smC s (.slice ah nh ch) (.slice ag ng cg)).toArray 70)) := (Below.refl _ _).alloc (Nat.le_refl _) _
  have hR : (w.alloc (.cells (smC s (.slice ah nh ch) (.slice ag ng cg)).toArray 70)).heap[w.heap.size]? = some (.cells (smC s (.slice ah nh ch) (.slice ag ng cg)).toArray 70 (0, 0)) := heap_alloc_last w _
  have HFH : Hid _ := fh
  have HFG : Hid _ := fg
  clear fh fg
  unfold smOk
  have c1 := fun w => l12Stream_any s.id w
  have c3 := fun W (h : Fs W ah nh ch s.head) => specHeadOk s.head ah nh ch W h hbd.hb (by have := hbd.hl; have := h.len; omega)
  have c4 := fun W (h : Fs W ag ng cg s.got) => specHeadOk s.got ag ng cg W h hbd.gb (by have := hbd.gl; have := h.len; omega)
  have c5 := fun w => specWordOk s.say w hbd.say
  have c6 := fun w => specWordOk s.text w hbd.text
  have c8 := fun w => specFlowOk s.fl w
  unfold wB at *
  unfold Fw.val at c8
  cases h0 : strm s.id with
  | false =>
    rw [h0] at c1
    clear h0
    simp only [Bool.false_and]
    go_enter Try.func37, Try.ntmps37
    have q0_0 := cellE hR 0 (.int .i64 s.id) rfl
    go_wp2_with fail
    refine (c1 _).mono ?_
    rintro e w0 ⟨rfl, rfl⟩
    clear q0_0
    go_wp2
    go_ret
    exact ⟨rfl, hB⟩
  | true =>
    rw [h0] at c1
    cases h1 : decide (1 ≤ s.st ∧ s.st ≤ 3) with
    | false =>
      have c2 := fun w => l6In_no (s.st) 1 3 w (of_decide_eq_false h1)
      clear h0 h1
      simp only [Bool.false_and, Bool.and_false]
      go_enter Try.func37, Try.ntmps37
      have q0_0 := cellE hR 0 (.int .i64 s.id) rfl
      go_wp2_with fail
      refine (c1 _).mono ?_
      rintro e w0 ⟨rfl, rfl⟩
      clear q0_0
      have q1_1 := cellE hR 1 (.int .i64 s.st) rfl
      go_wp2_with fail
      refine (c2 _).mono ?_
      rintro e w1 ⟨rfl, rfl⟩
      clear q1_1
      go_wp2
      go_ret
      exact ⟨rfl, hB⟩
    | true =>
      have c2 := fun w => l6In_yes (s.st) 1 3 w (of_decide_eq_true h1)
      cases h2 : hOk s.head with
      | false =>
        rw [h2] at c3
        clear h0 h1 h2
        simp only [Bool.false_and, Bool.and_false]
        go_enter Try.func37, Try.ntmps37
        have q0_0 := cellE hR 0 (.int .i64 s.id) rfl
        go_wp2_with fail
        refine (c1 _).mono ?_
        rintro e w0 ⟨rfl, rfl⟩
        clear q0_0
        have q1_1 := cellE hR 1 (.int .i64 s.st) rfl
        go_wp2_with fail
        refine (c2 _).mono ?_
        rintro e w1 ⟨rfl, rfl⟩
        clear q1_1
        have q2_2 := cellE hR 2 (.slice ah nh ch) rfl
        go_wp2_with fail
        refine (c3 _ (HFH.out.below hB)).mono ?_
        rintro e w2 ⟨rfl, hb⟩
        clear q2_2
        replace hR := blkF hb hR
        replace hB := btF hB hb
        clear hb
        go_wp2
        go_ret
        exact ⟨rfl, hB⟩
      | true =>
        rw [h2] at c3
        cases h3 : hOk s.got with
        | false =>
          rw [h3] at c4
          clear h0 h1 h2 h3
          simp only [Bool.false_and, Bool.and_false]
          go_enter Try.func37, Try.ntmps37
          have q0_0 := cellE hR 0 (.int .i64 s.id) rfl
          go_wp2_with fail
          refine (c1 _).mono ?_
          rintro e w0 ⟨rfl, rfl⟩
          clear q0_0
          have q1_1 := cellE hR 1 (.int .i64 s.st) rfl
          go_wp2_with fail
          refine (c2 _).mono ?_
          rintro e w1 ⟨rfl, rfl⟩
          clear q1_1
          have q2_2 := cellE hR 2 (.slice ah nh ch) rfl
          go_wp2_with fail
          refine (c3 _ (HFH.out.below hB)).mono ?_
          rintro e w2 ⟨rfl, hb⟩
          clear q2_2
          replace hR := blkF hb hR
          replace hB := btF hB hb
          clear hb
          have q3_7 := cellE hR 7 (.slice ag ng cg) rfl
          go_wp2_with fail
          refine (c4 _ (HFG.out.below hB)).mono ?_
          rintro e w3 ⟨rfl, hb⟩
          clear q3_7
          replace hR := blkF hb hR
          replace hB := btF hB hb
          clear hb
          go_wp2
          go_ret
          exact ⟨rfl, hB⟩
        | true =>
          rw [h3] at c4
          cases h4 : wOk (bytesL s.say) with
          | false =>
            rw [h4] at c5
            clear h0 h1 h2 h3 h4
            simp only [Bool.false_and, Bool.and_false]
            go_enter Try.func37, Try.ntmps37
            have q0_0 := cellE hR 0 (.int .i64 s.id) rfl
            go_wp2_with fail
            refine (c1 _).mono ?_
            rintro e w0 ⟨rfl, rfl⟩
            clear q0_0
            have q1_1 := cellE hR 1 (.int .i64 s.st) rfl
            go_wp2_with fail
            refine (c2 _).mono ?_
            rintro e w1 ⟨rfl, rfl⟩
            clear q1_1
            have q2_2 := cellE hR 2 (.slice ah nh ch) rfl
            go_wp2_with fail
            refine (c3 _ (HFH.out.below hB)).mono ?_
            rintro e w2 ⟨rfl, hb⟩
            clear q2_2
            replace hR := blkF hb hR
            replace hB := btF hB hb
            clear hb
            have q3_7 := cellE hR 7 (.slice ag ng cg) rfl
            go_wp2_with fail
            refine (c4 _ (HFG.out.below hB)).mono ?_
            rintro e w3 ⟨rfl, hb⟩
            clear q3_7
            replace hR := blkF hb hR
            replace hB := btF hB hb
            clear hb
            have q4_3 := cellE hR 3 (.string s.say) rfl
            go_wp2_with fail
            refine (c5 _).mono ?_
            rintro e w4 ⟨rfl, rfl⟩
            clear q4_3
            go_wp2
            go_ret
            exact ⟨rfl, hB⟩
          | true =>
            rw [h4] at c5
            cases h5 : wOk (bytesL s.text) with
            | false =>
              rw [h5] at c6
              clear h0 h1 h2 h3 h4 h5
              simp only [Bool.false_and, Bool.and_false]
              go_enter Try.func37, Try.ntmps37
              have q0_0 := cellE hR 0 (.int .i64 s.id) rfl
              go_wp2_with fail
              refine (c1 _).mono ?_
              rintro e w0 ⟨rfl, rfl⟩
              clear q0_0
              have q1_1 := cellE hR 1 (.int .i64 s.st) rfl
              go_wp2_with fail
              refine (c2 _).mono ?_
              rintro e w1 ⟨rfl, rfl⟩
              clear q1_1
              have q2_2 := cellE hR 2 (.slice ah nh ch) rfl
              go_wp2_with fail
              refine (c3 _ (HFH.out.below hB)).mono ?_
              rintro e w2 ⟨rfl, hb⟩
              clear q2_2
              replace hR := blkF hb hR
              replace hB := btF hB hb
              clear hb
              have q3_7 := cellE hR 7 (.slice ag ng cg) rfl
              go_wp2_with fail
              refine (c4 _ (HFG.out.below hB)).mono ?_
              rintro e w3 ⟨rfl, hb⟩
              clear q3_7
              replace hR := blkF hb hR
              replace hB := btF hB hb
              clear hb
              have q4_3 := cellE hR 3 (.string s.say) rfl
              go_wp2_with fail
              refine (c5 _).mono ?_
              rintro e w4 ⟨rfl, rfl⟩
              clear q4_3
              have q5_8 := cellE hR 8 (.string s.text) rfl
              go_wp2_with fail
              refine (c6 _).mono ?_
              rintro e w5 ⟨rfl, rfl⟩
              clear q5_8
              go_wp2
              go_ret
              exact ⟨rfl, hB⟩
            | true =>
              rw [h5] at c6
              cases h6 : decide (0 ≤ s.sent ∧ s.sent ≤ s.say.size) with
              | false =>
                have c7 := fun w => l6In_no (s.sent) 0 (s.say.size : Int) w (of_decide_eq_false h6)
                clear h0 h1 h2 h3 h4 h5 h6
                simp only [Bool.false_and, Bool.and_false]
                go_enter Try.func37, Try.ntmps37
                have q0_0 := cellE hR 0 (.int .i64 s.id) rfl
                go_wp2_with fail
                refine (c1 _).mono ?_
                rintro e w0 ⟨rfl, rfl⟩
                clear q0_0
                have q1_1 := cellE hR 1 (.int .i64 s.st) rfl
                go_wp2_with fail
                refine (c2 _).mono ?_
                rintro e w1 ⟨rfl, rfl⟩
                clear q1_1
                have q2_2 := cellE hR 2 (.slice ah nh ch) rfl
                go_wp2_with fail
                refine (c3 _ (HFH.out.below hB)).mono ?_
                rintro e w2 ⟨rfl, hb⟩
                clear q2_2
                replace hR := blkF hb hR
                replace hB := btF hB hb
                clear hb
                have q3_7 := cellE hR 7 (.slice ag ng cg) rfl
                go_wp2_with fail
                refine (c4 _ (HFG.out.below hB)).mono ?_
                rintro e w3 ⟨rfl, hb⟩
                clear q3_7
                replace hR := blkF hb hR
                replace hB := btF hB hb
                clear hb
                have q4_3 := cellE hR 3 (.string s.say) rfl
                go_wp2_with fail
                refine (c5 _).mono ?_
                rintro e w4 ⟨rfl, rfl⟩
                clear q4_3
                have q5_8 := cellE hR 8 (.string s.text) rfl
                go_wp2_with fail
                refine (c6 _).mono ?_
                rintro e w5 ⟨rfl, rfl⟩
                clear q5_8
                have q6_6 := cellE hR 6 (.int .i64 s.sent) rfl
                have q6_3 := cellE hR 3 (.string s.say) rfl
                go_wp2_with fail
                refine (c7 _).mono ?_
                rintro e w6 ⟨rfl, rfl⟩
                clear q6_6 q6_3
                go_wp2
                go_ret
                exact ⟨rfl, hB⟩
              | true =>
                have c7 := fun w => l6In_yes (s.sent) 0 (s.say.size : Int) w (of_decide_eq_true h6)
                cases h7 : flOk s.fl with
                | false =>
                  rw [h7] at c8
                  clear h0 h1 h2 h3 h4 h5 h6 h7
                  simp only [Bool.and_false]
                  go_enter Try.func37, Try.ntmps37
                  have q0_0 := cellE hR 0 (.int .i64 s.id) rfl
                  go_wp2_with fail
                  refine (c1 _).mono ?_
                  rintro e w0 ⟨rfl, rfl⟩
                  clear q0_0
                  have q1_1 := cellE hR 1 (.int .i64 s.st) rfl
                  go_wp2_with fail
                  refine (c2 _).mono ?_
                  rintro e w1 ⟨rfl, rfl⟩
                  clear q1_1
                  have q2_2 := cellE hR 2 (.slice ah nh ch) rfl
                  go_wp2_with fail
                  refine (c3 _ (HFH.out.below hB)).mono ?_
                  rintro e w2 ⟨rfl, hb⟩
                  clear q2_2
                  replace hR := blkF hb hR
                  replace hB := btF hB hb
                  clear hb
                  have q3_7 := cellE hR 7 (.slice ag ng cg) rfl
                  go_wp2_with fail
                  refine (c4 _ (HFG.out.below hB)).mono ?_
                  rintro e w3 ⟨rfl, hb⟩
                  clear q3_7
                  replace hR := blkF hb hR
                  replace hB := btF hB hb
                  clear hb
                  have q4_3 := cellE hR 3 (.string s.say) rfl
                  go_wp2_with fail
                  refine (c5 _).mono ?_
                  rintro e w4 ⟨rfl, rfl⟩
                  clear q4_3
                  have q5_8 := cellE hR 8 (.string s.text) rfl
                  go_wp2_with fail
                  refine (c6 _).mono ?_
                  rintro e w5 ⟨rfl, rfl⟩
                  clear q5_8
                  have q6_6 := cellE hR 6 (.int .i64 s.sent) rfl
                  have q6_3 := cellE hR 3 (.string s.say) rfl
                  go_wp2_with fail
                  refine (c7 _).mono ?_
                  rintro e w6 ⟨rfl, rfl⟩
                  clear q6_6 q6_3
                  have q7_10 := cellE hR 10 (.int .i64 s.fl.s) rfl
                  have q7_11 := cellE hR 11 (.int .i64 s.fl.r) rfl
                  go_wp2_with fail
                  refine (c8 _).mono ?_
                  rintro e w7 ⟨rfl, hb⟩
                  clear q7_10 q7_11
                  replace hR := blkF hb hR
                  replace hB := btF hB hb
                  clear hb
                  go_wp2
                  go_ret
                  exact ⟨rfl, hB⟩
                | true =>
                  rw [h7] at c8
                  clear h0 h1 h2 h3 h4 h5 h6 h7
                  simp only [Bool.true_and]
                  go_enter Try.func37, Try.ntmps37
                  have q0_0 := cellE hR 0 (.int .i64 s.id) rfl
                  go_wp2_with fail
                  refine (c1 _).mono ?_
                  rintro e w0 ⟨rfl, rfl⟩
                  clear q0_0
                  have q1_1 := cellE hR 1 (.int .i64 s.st) rfl
                  go_wp2_with fail
                  refine (c2 _).mono ?_
                  rintro e w1 ⟨rfl, rfl⟩
                  clear q1_1
                  have q2_2 := cellE hR 2 (.slice ah nh ch) rfl
                  go_wp2_with fail
                  refine (c3 _ (HFH.out.below hB)).mono ?_
                  rintro e w2 ⟨rfl, hb⟩
                  clear q2_2
                  replace hR := blkF hb hR
                  replace hB := btF hB hb
                  clear hb
                  have q3_7 := cellE hR 7 (.slice ag ng cg) rfl
                  go_wp2_with fail
                  refine (c4 _ (HFG.out.below hB)).mono ?_
                  rintro e w3 ⟨rfl, hb⟩
                  clear q3_7
                  replace hR := blkF hb hR
                  replace hB := btF hB hb
                  clear hb
                  have q4_3 := cellE hR 3 (.string s.say) rfl
                  go_wp2_with fail
                  refine (c5 _).mono ?_
                  rintro e w4 ⟨rfl, rfl⟩
                  clear q4_3
                  have q5_8 := cellE hR 8 (.string s.text) rfl
                  go_wp2_with fail
                  refine (c6 _).mono ?_
                  rintro e w5 ⟨rfl, rfl⟩
                  clear q5_8
                  have q6_6 := cellE hR 6 (.int .i64 s.sent) rfl
                  have q6_3 := cellE hR 3 (.string s.say) rfl
                  go_wp2_with fail
                  refine (c7 _).mono ?_
                  rintro e w6 ⟨rfl, rfl⟩
                  clear q6_6 q6_3
                  have q7_10 := cellE hR 10 (.int .i64 s.fl.s) rfl
                  have q7_11 := cellE hR 11 (.int .i64 s.fl.r) rfl
                  go_wp2_with fail
                  refine (c8 _).mono ?_
                  rintro e w7 ⟨rfl, hb⟩
                  clear q7_10 q7_11
                  replace hR := blkF hb hR
                  replace hB := btF hB hb
                  clear hb
                  go_wp2
                  go_ret
                  exact ⟨rfl, hB⟩
end Go.Proofs.Ytdnajdobmlgmiaa

namespace Go.Proofs.Ytdnajdobmlgmiaa
open Go.RowKit
set_option linter.unusedVariables false

def atI (id : Int) (l : List Sm) : Int := if smAt id l < l.length then (smAt id l : Int) else -1
theorem Rw.at {w : World} {g o n cap size : Nat} {xs : List Value} (h : Rw w (some ⟨g, o, none⟩) n cap size xs) (j : Nat) (u : Value) (hu : xs[j]? = some u) : w.cell? ⟨g, o + j, none⟩ = some u := h.cells g o rfl j u hu
end Go.Proofs.Ytdnajdobmlgmiaa

namespace Go.Proofs.Ytdnajdobmlgmiaa
open Go.RowKit
set_option linter.unusedVariables false

end Go.Proofs.Ytdnajdobmlgmiaa
