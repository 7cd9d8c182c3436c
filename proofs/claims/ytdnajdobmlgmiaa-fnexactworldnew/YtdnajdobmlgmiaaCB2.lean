import Derived.Test.YtdnajdobmlgmiaaEdE1
import Derived.Deep.AppendLies
import Derived.Laws.AppendOwnNone
import Derived.Great.BuildSlice
import Derived.Test.YtdnajdobmlgmiaaCB
namespace Go.Proofs.Ytdnajdobmlgmiaa
open Go.RowKit
set_option linter.unusedVariables false

abbrev zSmC : Array Value := #[.int .i64 0, .int .i64 0, .slice none 0 0, .string ⟨#[]⟩, .bool false, .bool false, .int .i64 0, .slice none 0 0, .string ⟨#[]⟩, .bool false, .int .i64 0, .int .i64 0]
theorem infoSmB : (Try.prog.info? 70).map (fun i => (i.zero, i.size, i.bytes)) = some (some (.agg zSmC), 12, 136) := by kernel_rfl
theorem infoFrB : (Try.prog.info? 73).map (fun i => (i.zero, i.size, i.bytes)) = some (some (.agg #[.int .i64 0, .bool false, .int .i64 0, .string ⟨#[]⟩]), 4, 40) := by kernel_rfl
theorem smC_one (s : Sm) (ah ag : Option Addr) (nh ch ng cg : Nat) : ∀ u ∈ smC s (.slice ah nh ch) (.slice ag ng cg), u.oneCell' = true := by
  intro u hu
  simp [smC] at hu
  rcases hu with rfl | rfl | rfl | rfl | rfl | rfl | rfl | rfl | rfl | rfl | rfl | rfl <;> rfl
theorem zSm_fill (cs : List Value) (h : cs.length = 12) : Instr.fill (fun i => some (i * 12, 12)) ((Array.range (1 * 12)).map ((Value.agg zSmC).cells[· % (Value.agg zSmC).cells.size]!)) [(0, .agg cs.toArray)] = some cs.toArray := by
  match cs, h with
  | [a0, a1, a2, a3, a4, a5, a6, a7, a8, a9, b0, b1], _ =>
    show _ = _
    kernel_rfl
/-- A slice of one stream is laid. -/
theorem wpList_bsSm {ops : Array Oper} {rest : List Oper} {o : Oper} {a : Act} {w : World} {Q : Exit → Act → World → Prop} (hg : o.guard = none) (x : Operand) (ho : o.op = .buildSlice 25 1 #[(0, x)])
    (cs : List Value) (hx : a.eval x = .agg cs.toArray) (hcs : cs.length = 12)
    (h : wpList Try.prog ops Q rest (a.put o.dst (.slice (some ⟨w.heap.size, 0, none⟩) 1 1)) (w.alloc (.cells cs.toArray 70))) : wpList Try.prog ops Q (o :: rest) a w := by
  obtain ⟨ii, hi, hz0, hz1, hz2⟩ := info_parts infoSmB
  refine wpList_buildSlice hg 25 70 1 #[(0, x)] ho cs.toArray ii (.agg zSmC) Try.underlying25 hi hz0 (by rw [hz1]; decide) (by rw [hz1]; decide) ?_ h
  rw [hz1]
  have e1 : ((#[(0, x)] : Array (Nat × Operand)).map fun (i, x) => (i, a.eval x)).toList = [(0, a.eval x)] := by simp
  rw [e1, hx]
  exact zSm_fill cs hcs
abbrev zFrC : Array Value := #[.int .i64 0, .bool false, .int .i64 0, .string ⟨#[]⟩]
theorem zFr_fill1 (f : Fr) : Instr.fill (fun i => some (i * 4, 4)) ((Array.range (1 * 4)).map ((Value.agg zFrC).cells[· % (Value.agg zFrC).cells.size]!)) [(0, .agg (frC f).toArray)] = some (frC f).toArray := by kernel_rfl
theorem zFr_fill2 (f g : Fr) : Instr.fill (fun i => some (i * 4, 4)) ((Array.range (2 * 4)).map ((Value.agg zFrC).cells[· % (Value.agg zFrC).cells.size]!)) [(0, .agg (frC f).toArray), (1, .agg (frC g).toArray)] = some (frC f ++ frC g).toArray := by kernel_rfl
/-- A slice of one frame, of two frames, is laid. -/
theorem wpList_bsFr {ops : Array Oper} {rest : List Oper} {o : Oper} {a : Act} {w : World} {Q : Exit → Act → World → Prop} (hg : o.guard = none) (x : Operand) (ho : o.op = .buildSlice 28 1 #[(0, x)])
    (f : Fr) (hx : a.eval x = .agg (frC f).toArray)
    (h : wpList Try.prog ops Q rest (a.put o.dst (.slice (some ⟨w.heap.size, 0, none⟩) 1 1)) (w.alloc (.cells (frC f).toArray 73))) : wpList Try.prog ops Q (o :: rest) a w := by
  obtain ⟨ii, hi, hz0, hz1, hz2⟩ := info_parts infoFrB
  refine wpList_buildSlice hg 28 73 1 #[(0, x)] ho (frC f).toArray ii (.agg zFrC) Try.underlying28 hi hz0 (by rw [hz1]; decide) (by rw [hz1]; decide) ?_ h
  rw [hz1]
  have e1 : ((#[(0, x)] : Array (Nat × Operand)).map fun (i, x) => (i, a.eval x)).toList = [(0, a.eval x)] := by simp
  rw [e1, hx]
  exact zFr_fill1 f
theorem wpList_bsFr2 {ops : Array Oper} {rest : List Oper} {o : Oper} {a : Act} {w : World} {Q : Exit → Act → World → Prop} (hg : o.guard = none) (x y : Operand) (ho : o.op = .buildSlice 28 2 #[(0, x), (1, y)])
    (f g : Fr) (hx : a.eval x = .agg (frC f).toArray) (hy : a.eval y = .agg (frC g).toArray)
    (h : wpList Try.prog ops Q rest (a.put o.dst (.slice (some ⟨w.heap.size, 0, none⟩) 2 2)) (w.alloc (.cells (frC f ++ frC g).toArray 73))) : wpList Try.prog ops Q (o :: rest) a w := by
  obtain ⟨ii, hi, hz0, hz1, hz2⟩ := info_parts infoFrB
  refine wpList_buildSlice hg 28 73 2 #[(0, x), (1, y)] ho (frC f ++ frC g).toArray ii (.agg zFrC) Try.underlying28 hi hz0 (by rw [hz1]; decide) (by rw [hz1]; decide) ?_ h
  rw [hz1]
  have e1 : ((#[(0, x), (1, y)] : Array (Nat × Operand)).map fun (i, x) => (i, a.eval x)).toList = [(0, a.eval x), (1, a.eval y)] := by simp
  rw [e1, hx, hy]
  exact zFr_fill2 f g
/-- 'append' of one stream that lies in a block of its own. -/
theorem wpList_appSm {ops : Array Oper} {rest : List Oper} {o : Oper} {act : Act} {Q : Exit → Act → World → Prop} (w : World) (hgd : o.guard = none) (s x : Operand)
    (ho : o.op = .call { callee := .builtin .append, args := #[s, x], argTypes := #[25, 25] })
    (base : Nat) (v : Value) (k : Nat) (xs : List Value) (hs : act.eval s = v) (hown : w.ownsRow base 70 12 v k xs) (g1 : Nat) (cs : Array Value) (hx : act.eval x = .slice (some ⟨g1, 0, none⟩) 1 1) (hf : w.heap[g1]? = some (.cells cs 70 (0, 0))) (hcs : cs.size = 12)
    (h1 : ∀ u ∈ cs.toList, u.oneCell' = true) (hk : k ≤ 1048576) (hb : base ≤ w.heap.size)
    (h : ∀ g c w', w'.ownsRow base 70 12 (.slice (some ⟨g, 0, none⟩) (k + 1) c) (k + 1) (xs ++ cs.toList) → w.grownBy w' v.ownBlock → (v.ownBlock = some g ∨ g = w.heap.size) → g < w'.heap.size → wpList Try.prog ops Q rest (act.put o.dst (.slice (some ⟨g, 0, none⟩) (k + 1) c)) w') : wpList Try.prog ops Q (o :: rest) act w := by
  obtain ⟨ii, hi, hz0, hz1, hz2⟩ := info_parts infoSmB
  exact wpList_append_lies w hgd s x 25 ho base 70 ii (.agg zSmC) 12 136 Try.underlying25 hi hz0 hz1 hz2 rfl (by decide) v k xs hs hown ⟨g1, 0, none⟩ 1 1 cs.toList hx (by rw [Array.length_toList, hcs]) (World.news_of_block hf) h1 (by decide) (by unfold maxLen; omega) (by omega) hb w.heap.size rfl h
/-- 'append' of so many frames that lie in a block of their own. -/
theorem wpList_appFr {ops : Array Oper} {rest : List Oper} {o : Oper} {act : Act} {Q : Exit → Act → World → Prop} (w : World) (hgd : o.guard = none) (s x : Operand)
    (ho : o.op = .call { callee := .builtin .append, args := #[s, x], argTypes := #[28, 28] })
    (base : Nat) (v : Value) (k : Nat) (xs : List Value) (hs : act.eval s = v) (hown : w.ownsRow base 73 4 v k xs) (g1 m : Nat) (cs : Array Value) (hx : act.eval x = .slice (some ⟨g1, 0, none⟩) m m) (hf : w.heap[g1]? = some (.cells cs 73 (0, 0))) (hcs : cs.size = m * 4)
    (h1 : ∀ u ∈ cs.toList, u.oneCell' = true) (hm : 0 < m) (hk : k + m ≤ 1048580) (hb : base ≤ w.heap.size)
    (h : ∀ g c w', w'.ownsRow base 73 4 (.slice (some ⟨g, 0, none⟩) (k + m) c) (k + m) (xs ++ cs.toList) → w.grownBy w' v.ownBlock → (v.ownBlock = some g ∨ g = w.heap.size) → g < w'.heap.size → wpList Try.prog ops Q rest (act.put o.dst (.slice (some ⟨g, 0, none⟩) (k + m) c)) w') : wpList Try.prog ops Q (o :: rest) act w := by
  obtain ⟨ii, hi, hz0, hz1, hz2⟩ := info_parts infoFrB
  exact wpList_append_lies w hgd s x 28 ho base 73 ii (.agg #[.int .i64 0, .bool false, .int .i64 0, .string ⟨#[]⟩]) 4 40 Try.underlying28 hi hz0 hz1 hz2 rfl (by decide) v k xs hs hown ⟨g1, 0, none⟩ m m cs.toList hx (by rw [Array.length_toList, hcs]) (World.news_of_block hf) h1 hm (by unfold maxLen; omega) (by omega) hb w.heap.size rfl h
/-- 'append' of frames that can be read, nil or not. -/
theorem wpList_appFrs {ops : Array Oper} {rest : List Oper} {o : Oper} {act : Act} {Q : Exit → Act → World → Prop} (w : World) (hgd : o.guard = none) (s x : Operand)
    (ho : o.op = .call { callee := .builtin .append, args := #[s, x], argTypes := #[28, 28] })
    (base : Nat) (v : Value) (k : Nat) (xs : List Value) (hs : act.eval s = v) (hown : w.ownsRow base 73 4 v k xs) (a : Option Addr) (n cap : Nat) (l : List Fr) (hx : act.eval x = .slice a n cap) (hf : Rw w a n cap 4 (cellsFr l))
    (hk : k + n ≤ 3000000) (hb : base ≤ w.heap.size)
    (h : ∀ v' w', w'.ownsRow base 73 4 v' (k + n) (xs ++ cellsFr l) → w.grownBy w' v.ownBlock → wpList Try.prog ops Q rest (act.put o.dst v') w') : wpList Try.prog ops Q (o :: rest) act w := by
  obtain ⟨ii, hi, hz0, hz1, hz2⟩ := info_parts infoFrB
  rcases hf.form with ⟨rfl, rfl, rfl⟩ | ⟨g, of, rfl⟩
  · have hfs : cellsFr l = [] := List.eq_nil_of_length_eq_zero (by have := hf.len; omega)
    refine wpList_append_own_none hgd s x 28 ho base 73 ii 4 Try.underlying28 hi v k xs hs hown hx ?_
    exact h v w (by rw [hfs, List.append_nil]; exact hown) ⟨rfl, rfl, rfl, Nat.le_refl _, fun _ _ _ => rfl⟩
  · refine wpList_append_own w hgd s x 28 ho base 73 ii (.agg #[.int .i64 0, .bool false, .int .i64 0, .string ⟨#[]⟩]) 4 40 Try.underlying28 hi hz0 hz1 hz2 rfl (by decide) v k xs hs hown ⟨g, of, none⟩ n cap (cellsFr l) hx hf.len ?_ (cellsFr_one l) (by unfold maxLen; omega) (by omega) hb (fun v' w' h1 h2 _ => h v' w' h1 h2)
    intro j u hu
    have := hf.cells g of rfl j u hu
    rw [Addr.add_lit]
    exact this
/-- Blocks of two kinds are two. -/
theorem typ_ne {w : World} {g g' : Nat} {c c' : Array Value} {t t' : TypeId} {f f' : Nat × Nat} (h : w.heap[g]? = some (.cells c t f)) (h' : w.heap[g']? = some (.cells c' t' f')) (hne : t ≠ t') : g ≠ g' := by
  rintro rfl
  rw [h] at h'
  injection h' with h'
  injection h' with _ e _
  exact hne e
theorem own_typ {w : World} {base size n cap g o : Nat} {t : TypeId} {xs : List Value} (h : w.ownsRow base t size (.slice (some ⟨g, o, none⟩) n cap) n xs) : base ≤ g ∧ ∃ cur, w.heap[g]? = some (.cells cur t (0, 0)) := by
  rcases h.2 with ⟨hv, _⟩ | ⟨g', c, cur, hv, hb, hg, _⟩
  · injection hv with e1; cases e1
  · injection hv with e1 e2 e3
    injection e1 with e1
    injection e1 with e1
    subst e1
    exact ⟨hb, cur, hg⟩
/-- Fields in a row of their own. -/
abbrev FsN (w : World) (base : Nat) : FP := fun a n c fs => w.ownsRow base 98 3 (.slice a n c) n (cellsF fs)
theorem FsN.off {w : World} {base : Nat} {a : Option Addr} {n c : Nat} {fs : List Fd} (h : FsN w base a n c fs) {X : Nat → Prop} (hx : ∀ g, X g → g < base ∨ ∃ cur t, w.heap[g]? = some (.cells cur t (0, 0)) ∧ t ≠ 98) : FsX w X a n c fs := by
  refine ⟨own_Fs h, ?_⟩
  rintro _ g o rfl hg
  obtain ⟨h1, cur, h2⟩ := own_typ h
  rcases hx g hg with hl | ⟨cur', t, h3, h4⟩
  · omega
  · exact typ_ne h3 h2 h4 rfl
theorem FsN.below {w w' : World} {base : Nat} {a : Option Addr} {n c : Nat} {fs : List Fd} (h : FsN w base a n c fs) (hb : Below w.heap.size w w') : FsN w' base a n c fs := own_belowT h hb
theorem FsN.kept {w w' : World} {base : Nat} {a : Option Addr} {n c : Nat} {fs : List Fd} (h : FsN w base a n c fs) {row : Option Nat} (hg : w.grownBy w' row) (hr : ∀ g, row = some g → ∃ cur t, w.heap[g]? = some (.cells cur t (0, 0)) ∧ t ≠ 98) : FsN w' base a n c fs := by
  refine World.ownsRow.kept h hg ?_
  rcases a with _ | ⟨g, o, sp⟩
  · exact .inl rfl
  · refine .inr fun e => ?_
    have e' : row = some g := e.symm
    obtain ⟨cur, t, h1, h2⟩ := hr g e'
    rcases h.2 with ⟨hv, _⟩ | ⟨g', c', cur', hv, hb, hg', _⟩
    · injection hv with e1; cases e1
    · injection hv with e1 e2 e3
      injection e1 with e1
      injection e1 with e1
      subst e1
      exact typ_ne h1 hg' h2 rfl
theorem own_row_typ {w : World} {base size n : Nat} {t : TypeId} {v : Value} {xs : List Value} (h : w.ownsRow base t size v n xs) : ∀ g, v.ownBlock = some g → ∃ cur, w.heap[g]? = some (.cells cur t (0, 0)) := by
  intro g hg
  rcases h.2 with ⟨rfl, _⟩ | ⟨g', c, cur, rfl, hb, hg', _⟩
  · cases hg
  · have : g' = g := by injection hg
    subst this
    exact ⟨cur, hg'⟩
end Go.Proofs.Ytdnajdobmlgmiaa

namespace Go.Proofs.Ytdnajdobmlgmiaa
open Go.RowKit
set_option linter.unusedVariables false

/-- An end in a box of its own. -/
abbrev Bx (W : World) (B : Nat) (e : Ed) (o i s q : Value) : Prop := W.heap[B]? = some (.cells (edC e o i s q) 30 (0, 0))
theorem bx1 {W : World} {B : Nat} {e : Ed} {o i s q : Value} (h : Bx W B e o i s q) (v : Value) : Bx (W.setCell ⟨B, 1, none⟩ v) B e v i s q := setc_heapW 1 v h
theorem bx3 {W : World} {B : Nat} {e : Ed} {o i s q : Value} (h : Bx W B e o i s q) (v : Value) : Bx (W.setCell ⟨B, 3, none⟩ v) B e o v s q := setc_heapW 3 v h
theorem bx6 {W : World} {B : Nat} {e : Ed} {o i s q : Value} (h : Bx W B e o i s q) (v : Value) : Bx (W.setCell ⟨B, 6, none⟩ v) B e o i v q := setc_heapW 6 v h
theorem bx9 {W : World} {B : Nat} {e : Ed} {o i s q : Value} (h : Bx W B e o i s q) (v : Value) : Bx (W.setCell ⟨B, 9, none⟩ v) B e o i s v := setc_heapW 9 v h
theorem kpCell {X : Nat → Prop} {w W : World} {p : Addr} (v : Value) (h : Kp X w W) (hp : w.heap.size ≤ p.block) : Kp X w (W.setCell p v) :=
  ⟨h.os, h.tape, h.output, by have := h.size; simpa [World.setCell] using this, fun k hk hn => (Below.heap_setCell W p v k (by omega)).trans (h.block k hk hn)⟩
theorem setOther {W : World} {B C o : Nat} {x : Obj} (v : Value) (h : W.heap[C]? = some x) (hne : C ≠ B) : (W.setCell ⟨B, o, none⟩ v).heap[C]? = some x := (Below.heap_setCell W ⟨B, o, none⟩ v C hne).trans h
theorem belCell {n : Nat} {w W : World} {B o : Nat} (h : Below n w W) (hB : n ≤ B) (v : Value) : Below n w (W.setCell ⟨B, o, none⟩ v) := h.setCell (p := ⟨B, o, none⟩) hB v
theorem FsN.set {W : World} {base B o : Nat} {cs : Array Value} {t : TypeId} {a : Option Addr} {n c : Nat} {fs : List Fd} (h : FsN W base a n c fs) (v : Value) (hB : W.heap[B]? = some (.cells cs t (0, 0))) (ht : t ≠ 98) : FsN (W.setCell ⟨B, o, none⟩ v) base a n c fs :=
  h.kept (row := some B) ⟨rfl, rfl, rfl, by simp [World.setCell], fun k hk hn => Below.heap_setCell _ _ _ _ (fun e => hn (by rw [e]))⟩ (fun g e => by injection e with e; subst e; exact ⟨cs, t, hB, ht⟩)
/-- What is of another kind than the row that was written stands. -/
theorem grown_blk {w w' : World} {row : Option Nat} {t : TypeId} (hg : w.grownBy w' row) (hr : ∀ g, row = some g → ∃ cur, w.heap[g]? = some (.cells cur t (0, 0))) {B : Nat} {cs : Array Value} {t' : TypeId} {fr : Nat × Nat} (h : w.heap[B]? = some (.cells cs t' fr)) (hne : t ≠ t') : w'.heap[B]? = some (.cells cs t' fr) :=
  (hg.block B (Array.getElem?_eq_some_iff.1 h).1 (fun e => by
    obtain ⟨cur, hc⟩ := hr B e.symm
    rw [h] at hc
    injection hc with hc
    injection hc with _ e2 _
    exact hne e2.symm)).trans h
theorem FsN.row {W W' : World} {base : Nat} {t : TypeId} {a : Option Addr} {n c : Nat} {fs : List Fd} {row : Option Nat} (h : FsN W base a n c fs) (hg : W.grownBy W' row) (hr : ∀ g, row = some g → ∃ cur, W.heap[g]? = some (.cells cur t (0, 0))) (ht : t ≠ 98) : FsN W' base a n c fs :=
  h.kept hg (fun g e => by obtain ⟨cur, hc⟩ := hr g e; exact ⟨cur, t, hc, ht⟩)
theorem own_row {W W' : World} {base size n : Nat} {t t' : TypeId} {v : Value} {xs : List Value} {row : Option Nat} (h : W.ownsRow base t' size v n xs) (hg : W.grownBy W' row) (hr : ∀ g, row = some g → ∃ cur, W.heap[g]? = some (.cells cur t (0, 0))) (ht : t ≠ t') : W'.ownsRow base t' size v n xs := by
  refine h.kept hg ?_
  cases hv : v.ownBlock with
  | none => exact .inl rfl
  | some g =>
    refine .inr (fun e => ?_)
    obtain ⟨cur, hc⟩ := own_row_typ h g hv
    obtain ⟨cur', hc'⟩ := hr g e.symm
    exact typ_ne hc' hc ht rfl
theorem one_row {W : World} {B : Nat} {cs : Array Value} {t : TypeId} (h : W.heap[B]? = some (.cells cs t (0, 0))) : ∀ g, some B = some g → ∃ cur, W.heap[g]? = some (.cells cur t (0, 0)) := by
  intro g e
  injection e with e
  subst e
  exact ⟨cs, h⟩
theorem grown_setCell (W : World) (B o : Nat) (v : Value) : W.grownBy (W.setCell ⟨B, o, none⟩ v) (some B) :=
  ⟨rfl, rfl, rfl, by simp [World.setCell], fun k hk hn => Below.heap_setCell _ _ _ _ (fun e => hn (by rw [e]))⟩

end Go.Proofs.Ytdnajdobmlgmiaa

namespace Go.Proofs.Ytdnajdobmlgmiaa
open Go.RowKit
set_option linter.unusedVariables false

theorem FsX.mono {w : World} {X Y : Nat → Prop} {a : Option Addr} {n c : Nat} {fs : List Fd} (h : FsX w X a n c fs) (hy : ∀ g, Y g → g < w.heap.size → X g) : FsX w Y a n c fs :=
  ⟨h.1, fun hn g o e hg => h.2 hn g o e (hy g hg (h.1.lt2 g o e hn))⟩
/-- Blocks beyond those that are there do not matter. -/
theorem EdQ.more {w : World} {base : Nat} {X Y : Nat → Prop} {e : Ed} {o i s q : Value} (h : EdQ w base X e o i s q) (hy : ∀ g, Y g → X g ∨ w.heap.size ≤ g) : EdQ w base Y e o i s q := by
  refine ⟨EdG.mono (fun a n c fs k => FsX.mono k ?_) (fun _ _ _ k => k) (fun _ _ _ k => k) h.g, ?_⟩
  · rintro g (hg | hg) hlt
    · exact .inl hg
    · exact (hy g hg).elim .inr (fun hge => by omega)
  · intro g hg hyg
    rcases hy g hyg with k | k
    · exact h.off g hg k
    · have := (h.lt g hg).2; omega
theorem EdQ.base {w : World} {b b' : Nat} {X : Nat → Prop} {e : Ed} {o i s q : Value} (h : EdQ w b X e o i s q) (hb : b' ≤ b) : EdQ w b' X e o i s q :=
  ⟨EdG.mono (fun _ _ _ _ k => k) (fun _ _ _ k => own_baseT k hb) (fun _ _ _ k => own_baseT k hb) h.g, h.off⟩
/-- Frames more wait. -/
theorem EdQ.appWait {w w' : World} {base : Nat} {X : Nat → Prop} {e : Ed} {o i s q : Value} (h : EdQ w base X e o i s q) (hX : ∀ g, X g → g < w.heap.size) (hg : w.grownBy w' q.ownBlock) {g c : Nat} {l : List Fr}
    (ho : w'.ownsRow base 73 4 (.slice (some ⟨g, 0, none⟩) (e.wait.length + l.length) c) (e.wait.length + l.length) (cellsFr e.wait ++ cellsFr l)) (hat : q.ownBlock = some g ∨ g = w.heap.size) :
    EdQ w' base X { e with wait := e.wait ++ l } o i s (.slice (some ⟨g, 0, none⟩) (e.wait.length + l.length) c) ∧ Lin w s q w' s (.slice (some ⟨g, 0, none⟩) (e.wait.length + l.length) c) := by
  have hk : Kp (rowsX s q) w w' := Kp.grown hg (fun g e => .inr e.symm)
  have hnew : ∀ k, rowsX s (.slice (some ⟨g, 0, none⟩) (e.wait.length + l.length) c) k → rowsX s q k ∨ w.heap.size ≤ k := by
    rintro k (hs | hq)
    · exact .inl (.inl hs)
    · have hq' : k = g := by injection hq
      subst hq'
      rcases hat with h1 | h1
      · exact .inl (.inr h1.symm)
      · exact .inr (by omega)
  refine ⟨⟨?_, ?_⟩, ⟨hk, hnew⟩⟩
  · obtain ⟨h1, h2, ⟨xs, h3, h3'⟩, h4⟩ := h.g
    have hf : ∀ a n c' fs, FsX w (fun g => rowsX s q g ∨ X g) a n c' fs → FsX w' (fun k => rowsX s (.slice (some ⟨g, 0, none⟩) (e.wait.length + l.length) c) k ∨ X k) a n c' fs := by
      intro a n c' fs hf
      have hf1 : FsX w (rowsX s q) a n c' fs := FsX.mono hf (fun g hg _ => .inl hg)
      refine ⟨hk.fs hf1, ?_⟩
      rintro hn k o' rfl (hr | hx)
      · rcases hnew k hr with k1 | k1
        · exact hf.2 hn k o' rfl (.inl k1)
        · have := hf.1.lt2 k o' rfl hn; omega
      · exact hf.2 hn k o' rfl (.inr hx)
    obtain ⟨a1, n1, c1, e1, f1⟩ := h1
    obtain ⟨a2, n2, c2, e2, f2⟩ := h2
    refine ⟨⟨a1, n1, c1, e1, hf _ _ _ _ f1⟩, ⟨a2, n2, c2, e2, hf _ _ _ _ f2⟩, ⟨xs, ?_, h3'.mono hf⟩, ?_⟩
    · refine h3.kept hg ?_
      cases hs : s.ownBlock with
      | none => exact .inl rfl
      | some g0 => exact .inr (fun e' => rowsX_ne h3 h4 g0 hs e'.symm)
    · show w'.ownsRow base 73 4 _ (e.wait ++ l).length (cellsFr (e.wait ++ l))
      rw [List.length_append, cellsFr_append]
      exact ho
  · intro k hr hx
    rcases hnew k hr with k1 | k1
    · exact h.off k k1 hx
    · have := hX k hx; omega
/-- A stream more. -/
theorem EdQ.appSts {w w' : World} {base : Nat} {X : Nat → Prop} {e : Ed} {o i s q : Value} (h : EdQ w base X e o i s q) (hX : ∀ g, X g → g < w.heap.size) (hg : w.grownBy w' s.ownBlock) {g c : Nat} {t : Sm} {ah ag : Option Addr} {nh ch ng cg : Nat} {xs : List Value}
    (hxs : w.ownsRow base 70 12 s e.sts.length xs) (hsl : SmL (FsX w (fun g => rowsX s q g ∨ X g)) e.sts xs)
    (ho : w'.ownsRow base 70 12 (.slice (some ⟨g, 0, none⟩) (e.sts.length + 1) c) (e.sts.length + 1) (xs ++ smC t (.slice ah nh ch) (.slice ag ng cg))) (hat : s.ownBlock = some g ∨ g = w.heap.size)
    (hh : FsX w (fun g => rowsX s q g ∨ X g) ah nh ch t.head) (hgt : FsX w (fun g => rowsX s q g ∨ X g) ag ng cg t.got) :
    EdQ w' base X { e with sts := e.sts ++ [t] } o i (.slice (some ⟨g, 0, none⟩) (e.sts.length + 1) c) q ∧ Lin w s q w' (.slice (some ⟨g, 0, none⟩) (e.sts.length + 1) c) q := by
  have hk : Kp (rowsX s q) w w' := Kp.grown hg (fun g e => .inl e.symm)
  have hnew : ∀ k, rowsX (.slice (some ⟨g, 0, none⟩) (e.sts.length + 1) c) q k → rowsX s q k ∨ w.heap.size ≤ k := by
    rintro k (hs | hq)
    · have hq' : k = g := by injection hs
      subst hq'
      rcases hat with h1 | h1
      · exact .inl (.inl h1.symm)
      · exact .inr (by omega)
    · exact .inl (.inr hq)
  refine ⟨⟨?_, ?_⟩, ⟨hk, hnew⟩⟩
  · obtain ⟨h1, h2, _, h4⟩ := h.g
    have hf : ∀ a n c' fs, FsX w (fun g => rowsX s q g ∨ X g) a n c' fs → FsX w' (fun k => rowsX (.slice (some ⟨g, 0, none⟩) (e.sts.length + 1) c) q k ∨ X k) a n c' fs := by
      intro a n c' fs hf
      have hf1 : FsX w (rowsX s q) a n c' fs := FsX.mono hf (fun g hg _ => .inl hg)
      refine ⟨hk.fs hf1, ?_⟩
      rintro hn k o' rfl (hr | hx)
      · rcases hnew k hr with k1 | k1
        · exact hf.2 hn k o' rfl (.inl k1)
        · have := hf.1.lt2 k o' rfl hn; omega
      · exact hf.2 hn k o' rfl (.inr hx)
    obtain ⟨a1, n1, c1, e1, f1⟩ := h1
    obtain ⟨a2, n2, c2, e2, f2⟩ := h2
    refine ⟨⟨a1, n1, c1, e1, hf _ _ _ _ f1⟩, ⟨a2, n2, c2, e2, hf _ _ _ _ f2⟩, ⟨_, ?_, (hsl.mono hf).append (SmL.one (hf _ _ _ _ hh) (hf _ _ _ _ hgt))⟩, ?_⟩
    · show w'.ownsRow base 70 12 _ (e.sts ++ [t]).length _
      rw [List.length_append]
      exact ho
    · refine h4.kept hg ?_
      cases hq : q.ownBlock with
      | none => exact .inl rfl
      | some g0 => exact .inr (fun e' => rowsX_ne hxs h4 g0 e'.symm hq)
  · intro k hr hx
    rcases hnew k hr with k1 | k1
    · exact h.off k k1 hx
    · have := hX k hx; omega
/-- Cells of a stream, laid anew in place. -/
theorem EdQ.setSts {w : World} {base : Nat} {X : Nat → Prop} {e : Ed} {o i q : Value} {gs cs : Nat} (h : EdQ w base X e o i (.slice (some ⟨gs, 0, none⟩) e.sts.length cs) q) {k : Nat} {t : Sm} {xs : List Value} {ah ag : Option Addr} {nh ch ng cg o' : Nat} {vs : List Value}
    (hk : k < e.sts.length) (hxs : w.ownsRow base 70 12 (.slice (some ⟨gs, 0, none⟩) e.sts.length cs) e.sts.length xs) (hsl : SmL (FsX w (fun g => rowsX (.slice (some ⟨gs, 0, none⟩) e.sts.length cs) q g ∨ X g)) e.sts xs)
    (hl : o' + vs.length ≤ xs.length) (hput : putL xs o' vs = putL xs (k * 12) (smC t (.slice ah nh ch) (.slice ag ng cg)))
    (hh : FsX w (fun g => rowsX (.slice (some ⟨gs, 0, none⟩) e.sts.length cs) q g ∨ X g) ah nh ch t.head) (hgt : FsX w (fun g => rowsX (.slice (some ⟨gs, 0, none⟩) e.sts.length cs) q g ∨ X g) ag ng cg t.got) :
    EdQ (w.setCells gs o' vs) base X (setSm e k t) o i (.slice (some ⟨gs, 0, none⟩) e.sts.length cs) q ∧ Lin w (.slice (some ⟨gs, 0, none⟩) e.sts.length cs) q (w.setCells gs o' vs) (.slice (some ⟨gs, 0, none⟩) e.sts.length cs) q := by
  have hkp : Kp (rowsX (.slice (some ⟨gs, 0, none⟩) e.sts.length cs) q) w (w.setCells gs o' vs) := Kp.setCells gs (.inl rfl) vs o' w
  have hgg : Kp (fun g => g = gs) w (w.setCells gs o' vs) := Kp.setCells (X := fun g => g = gs) gs rfl vs o' w
  refine ⟨⟨?_, h.off⟩, ⟨hkp, fun g hg => .inl hg⟩⟩
  have hf : ∀ a n c' fs, FsX w (fun g => rowsX (.slice (some ⟨gs, 0, none⟩) e.sts.length cs) q g ∨ X g) a n c' fs → FsX (w.setCells gs o' vs) (fun k => rowsX (.slice (some ⟨gs, 0, none⟩) e.sts.length cs) q k ∨ X k) a n c' fs :=
    fun a n c' fs hf => ⟨hkp.fs (FsX.mono hf (fun g hg _ => .inl hg)), hf.2⟩
  obtain ⟨h1, h2, _, h4⟩ := h.g
  obtain ⟨a1, n1, c1, e1, f1⟩ := h1
  obtain ⟨a2, n2, c2, e2, f2⟩ := h2
  refine ⟨⟨a1, n1, c1, e1, hf _ _ _ _ f1⟩, ⟨a2, n2, c2, e2, hf _ _ _ _ f2⟩, ⟨putL xs o' vs, ?_, ?_⟩, ?_⟩
  · show (w.setCells gs o' vs).ownsRow base 70 12 _ (e.sts.set k t).length _
    rw [List.length_set]
    exact own_setCells hxs hl
  · show SmL _ (e.sts.set k t) _
    rw [hput, ← put12_putL _ _ _ rfl]
    exact (hsl.mono hf).set k t hk (hf _ _ _ _ hh) (hf _ _ _ _ hgt)
  · exact hgg.own h4 (fun g e hg => by subst hg; exact rowsX_ne hxs h4 g rfl e)
/-- What else of an end may turn: all that lies in no row. -/
theorem EdQ.flat {w : World} {base : Nat} {X : Nat → Prop} {e e' : Ed} {o i s q : Value} (h : EdQ w base X e o i s q) (h1 : e'.out = e.out) (h2 : e'.inn = e.inn) (h3 : e'.sts = e.sts) (h4 : e'.wait = e.wait) : EdQ w base X e' o i s q := by
  obtain ⟨g1, g2, g3, g4⟩ := h.g
  exact ⟨⟨by rw [h1]; exact g1, by rw [h2]; exact g2, by rw [h3]; exact g3, by rw [h4]; exact g4⟩, h.off⟩
/-- A walk under way: the end in its box, the box of the answer behind. -/
structure SE (w : World) (base : Nat) (X : Nat → Prop) (s0 q0 : Value) (V : World) (e : Ed) (o i s q : Value) : Prop where
  bx : V.heap[w.heap.size]? = some (.cells (edC e o i s q) 30 (0, 0))
  res : V.heap[w.heap.size + 1]? = some (.cells zEdC 30 (0, 0))
  ed : EdQ V base (fun g => X g ∨ g = w.heap.size ∨ g = w.heap.size + 1) e o i s q
  lin : Lin w s0 q0 V s q
theorem SE.start {w : World} {base : Nat} {X : Nat → Prop} {e : Ed} {o i s q : Value} (h : EdQ w base X e o i s q) : SE w base X s q ((w.alloc (.cells (edC e o i s q) 30)).alloc (.cells zEdC 30)) e o i s q := by
  have hb1 : Below w.heap.size w (w.alloc (.cells (edC e o i s q) 30)) := (Below.refl _ _).alloc (Nat.le_refl _) _
  have hb : Below w.heap.size w ((w.alloc (.cells (edC e o i s q) 30)).alloc (.cells zEdC 30)) := hb1.alloc (by rw [World.size_alloc]; omega) _
  refine ⟨blkF ((Below.refl _ _).alloc (Nat.le_refl _) _) (heap_alloc_last w _), ?_, ?_, Lin.below hb⟩
  · have h := heap_alloc_last (w.alloc (.cells (edC e o i s q) 30)) (.cells zEdC 30)
    rw [World.size_alloc] at h
    exact h
  · refine (h.more ?_).below hb
    rintro g (hg | hg | hg)
    · exact .inl hg
    · exact .inr (by omega)
    · exact .inr (by omega)
theorem SE.lt {w : World} {base : Nat} {X : Nat → Prop} {s0 q0 : Value} {V : World} {e : Ed} {o i s q : Value} (h : SE w base X s0 q0 V e o i s q) : w.heap.size + 1 < V.heap.size := (Array.getElem?_eq_some_iff.1 h.res).1
theorem SE.xlt {w : World} {base : Nat} {X : Nat → Prop} {s0 q0 : Value} {V : World} {e : Ed} {o i s q : Value} (h : SE w base X s0 q0 V e o i s q) (hX : ∀ g, X g → g < w.heap.size) : ∀ g, (X g ∨ g = w.heap.size ∨ g = w.heap.size + 1) → g < V.heap.size := by
  have := h.lt
  rintro g (hg | rfl | rfl)
  · have := hX g hg; omega
  · omega
  · omega
theorem SE.below {w : World} {base : Nat} {X : Nat → Prop} {s0 q0 : Value} {V V' : World} {e : Ed} {o i s q : Value} (h : SE w base X s0 q0 V e o i s q) (hb : Below V.heap.size V V') : SE w base X s0 q0 V' e o i s q :=
  ⟨blkF hb h.bx, blkF hb h.res, h.ed.below hb, h.lin.then (Lin.below hb)⟩
/-- Behind a step on the rows: the boxes stand. -/
theorem SE.step {w : World} {base : Nat} {X : Nat → Prop} {s0 q0 : Value} {V V' : World} {e : Ed} {o i s q s' q' : Value} (h : SE w base X s0 q0 V e o i s q) (hl : Lin V s q V' s' q') :
    V'.heap[w.heap.size]? = some (.cells (edC e o i s q) 30 (0, 0)) ∧ V'.heap[w.heap.size + 1]? = some (.cells zEdC 30 (0, 0)) ∧ Lin w s0 q0 V' s' q' :=
  ⟨hl.kp.blk h.bx (fun hr => h.ed.off _ hr (.inr (.inl rfl))), hl.kp.blk h.res (fun hr => h.ed.off _ hr (.inr (.inr rfl))), h.lin.then hl⟩
theorem Lin.write {w : World} {s0 q0 s q : Value} {V : World} (h : Lin w s0 q0 V s q) {B : Nat} (hB : w.heap.size ≤ B) (o : Nat) (v : Value) : Lin w s0 q0 (V.setCell ⟨B, o, none⟩ v) s q :=
  ⟨kpCell v h.kp hB, h.rows⟩
/-- A store into the box. -/
theorem SE.put {w : World} {base : Nat} {X : Nat → Prop} {s0 q0 : Value} {V : World} {e e' : Ed} {o i s q o2 i2 s2 q2 : Value} (hbx : V.heap[w.heap.size]? = some (.cells (edC e o i s q) 30 (0, 0))) (hres : V.heap[w.heap.size + 1]? = some (.cells zEdC 30 (0, 0)))
    (hq : EdQ V base (fun g => X g ∨ g = w.heap.size ∨ g = w.heap.size + 1) e' o2 i2 s2 q2) (hl : Lin w s0 q0 V s2 q2) (j : Nat) (v : Value) (hj : (edC e o i s q).setIfInBounds j v = edC e' o2 i2 s2 q2) :
    SE w base X s0 q0 (V.setCell ⟨w.heap.size, j, none⟩ v) e' o2 i2 s2 q2 := by
  have hb := setc_heapW j v hbx
  rw [hj] at hb
  refine ⟨hb, setOther v hres (by omega), ?_, hl.write (Nat.le_refl _) j v⟩
  exact hq.kept (Y := fun g => g = w.heap.size) (Kp.setCell ⟨w.heap.size, j, none⟩ v rfl) (fun g hg _ => .inr (.inl hg))
/-- At the end: what the answer's box has. -/
theorem SE.fin {w : World} {base : Nat} {X : Nat → Prop} {s0 q0 : Value} {V : World} {e : Ed} {o i s q : Value} (h : SE w base X s0 q0 V e o i s q) :
    EdQ (V.setRow (w.heap.size + 1) (edC e o i s q)) base X e o i s q ∧ Lin w s0 q0 (V.setRow (w.heap.size + 1) (edC e o i s q)) s q := by
  have hg := grown_setRowT V (w.heap.size + 1) (edC e o i s q)
  have hk : Kp (fun g => g = w.heap.size + 1) V (V.setRow (w.heap.size + 1) (edC e o i s q)) := Kp.grown hg (fun g e => by injection e with e; exact e.symm)
  refine ⟨(h.ed.kept hk (fun g hg _ => .inr (.inr hg))).more (fun g hg => .inl (.inl hg)), ⟨h.lin.kp.then hk (fun g hg => .inr (by omega)), h.lin.rows⟩⟩
end Go.Proofs.Ytdnajdobmlgmiaa

namespace Go.Proofs.Ytdnajdobmlgmiaa
open Go.RowKit
set_option linter.unusedVariables false

/-- A row of fields of one's own. -/
abbrev FO (w : World) (B : Nat) (v : Value) (fs : List Fd) : Prop := w.ownsRow B 98 3 v fs.length (cellsF fs)
theorem FO.fs {w : World} {B : Nat} {v : Value} {fs : List Fd} (h : FO w B v fs) : ∃ a c, v = .slice a fs.length c ∧ Fs w a fs.length c fs := by
  obtain ⟨a, c, rfl⟩ := own_formT h
  exact ⟨a, c, rfl, own_Fs h⟩
/-- The blocks of all rows of fields. -/
def rowsF (o i : Value) (hg : List (Value × Value)) : List Nat := (o.ownBlock :: i.ownBlock :: hg.flatMap fun x => [x.1.ownBlock, x.2.ownBlock]).filterMap id
/-- The cells of streams, their heads being these slices. -/
def cellsS : List Sm → List (Value × Value) → List Value
  | s :: r, x :: hg => smC s x.1 x.2 ++ cellsS r hg
  | _, _ => []
theorem cellsS_length : ∀ (l : List Sm) (hg : List (Value × Value)), hg.length = l.length → (cellsS l hg).length = l.length * 12
  | [], _, _ => by simp [cellsS]
  | s :: r, [], h => by simp at h
  | s :: r, x :: hg, h => by
    show (smC s x.1 x.2 ++ cellsS r hg).length = _
    rw [List.length_append, cellsS_length r hg (by simpa using h), List.length_cons]
    show 12 + r.length * 12 = _
    omega
theorem cellsS_at : ∀ (l : List Sm) (hg : List (Value × Value)), hg.length = l.length → ∀ (k : Nat) (s : Sm) (x : Value × Value), l[k]? = some s → hg[k]? = some x → ∀ j, j < 12 → (cellsS l hg)[k * 12 + j]? = (smC s x.1 x.2)[j]?
  | [], _, _, _, _, _, hk, _, _, _ => by simp at hk
  | s :: r, [], h, _, _, _, _, _, _, _ => by simp at h
  | s :: r, y :: hg, h, k, t, x, hk, hx, j, hj => by
    have e1 : (smC s y.1 y.2).length = 12 := rfl
    show (smC s y.1 y.2 ++ cellsS r hg)[k * 12 + j]? = _
    cases k with
    | zero =>
      simp at hk hx
      subst hk; subst hx
      rw [Nat.zero_mul, Nat.zero_add, List.getElem?_append_left (by rw [e1]; exact hj)]
    | succ k =>
      simp at hk hx
      rw [List.getElem?_append_right (by rw [e1]; omega), e1, show (k + 1) * 12 + j - 12 = k * 12 + j by omega]
      exact cellsS_at r hg (by simpa using h) k t x hk hx j hj
theorem cellsS_snoc : ∀ (l : List Sm) (hg : List (Value × Value)) (s : Sm) (x : Value × Value), hg.length = l.length → cellsS (l ++ [s]) (hg ++ [x]) = cellsS l hg ++ smC s x.1 x.2
  | [], [], s, x, _ => by simp [cellsS]
  | [], y :: hg, _, _, h => by simp at h
  | a :: r, [], _, _, h => by simp at h
  | a :: r, y :: hg, s, x, h => by
    show smC a y.1 y.2 ++ cellsS (r ++ [s]) (hg ++ [x]) = (smC a y.1 y.2 ++ cellsS r hg) ++ _
    rw [cellsS_snoc r hg s x (by simpa using h), List.append_assoc]
theorem cellsS_SmL {F : FP} : ∀ (l : List Sm) (hg : List (Value × Value)), hg.length = l.length → (∀ (k : Nat) (t : Sm) (x : Value × Value), l[k]? = some t → hg[k]? = some x → ∃ a1 n1 c1 a2 n2 c2, x = (.slice a1 n1 c1, .slice a2 n2 c2) ∧ F a1 n1 c1 t.head ∧ F a2 n2 c2 t.got) → SmL F l (cellsS l hg)
  | [], _, _, _ => by simp [cellsS, SmL]
  | s :: r, [], h, _ => by simp at h
  | s :: r, x :: hg, h, hd => by
    obtain ⟨a1, n1, c1, a2, n2, c2, rfl, h1, h2⟩ := hd 0 s x rfl rfl
    exact ⟨a1, n1, c1, a2, n2, c2, cellsS r hg, rfl, h1, h2, cellsS_SmL r hg (by simpa using h) (fun k t y hk hy => hd (k + 1) t y hk hy)⟩
/-- An end of one's own: all its rows are its own, from B on, and no two are one. -/
structure Eo (w : World) (B : Nat) (e : Ed) (o i s q : Value) (hg : List (Value × Value)) : Prop where
  out : FO w B o e.out
  inn : FO w B i e.inn
  lh : hg.length = e.sts.length
  hd : ∀ (k : Nat) (t : Sm) (x : Value × Value), e.sts[k]? = some t → hg[k]? = some x → FO w B x.1 t.head ∧ FO w B x.2 t.got
  sts : w.ownsRow B 70 12 s e.sts.length (cellsS e.sts hg)
  wait : w.ownsRow B 73 4 q e.wait.length (cellsFr e.wait)
  df : (rowsF o i hg).Nodup
theorem Eo.below {w w' : World} {B : Nat} {e : Ed} {o i s q : Value} {hg : List (Value × Value)} (h : Eo w B e o i s q hg) (hb : Below w.heap.size w w') : Eo w' B e o i s q hg :=
  ⟨own_belowT h.out hb, own_belowT h.inn hb, h.lh, fun k t x h1 h2 => ⟨own_belowT (h.hd k t x h1 h2).1 hb, own_belowT (h.hd k t x h1 h2).2 hb⟩, own_belowT h.sts hb, own_belowT h.wait hb, h.df⟩
theorem Eo.base {w : World} {B B' : Nat} {e : Ed} {o i s q : Value} {hg : List (Value × Value)} (h : Eo w B e o i s q hg) (hb : B' ≤ B) : Eo w B' e o i s q hg :=
  ⟨own_baseT h.out hb, own_baseT h.inn hb, h.lh, fun k t x h1 h2 => ⟨own_baseT (h.hd k t x h1 h2).1 hb, own_baseT (h.hd k t x h1 h2).2 hb⟩, own_baseT h.sts hb, own_baseT h.wait hb, h.df⟩
theorem Eo.read {w : World} {B : Nat} {e : Ed} {o i s q : Value} {hg : List (Value × Value)} (h : Eo w B e o i s q hg) : EdV w e o i s q := by
  obtain ⟨a1, c1, e1, f1⟩ := FO.fs h.out
  obtain ⟨a2, c2, e2, f2⟩ := FO.fs h.inn
  refine ⟨⟨a1, _, c1, e1, f1⟩, ⟨a2, _, c2, e2, f2⟩, ⟨_, ownsRow_Rd h.sts, cellsS_SmL _ _ h.lh ?_⟩, ownsRow_Rd h.wait⟩
  intro k t x hk hx
  obtain ⟨k1, k2⟩ := h.hd k t x hk hx
  obtain ⟨b1, d1, e3, g1⟩ := FO.fs k1
  obtain ⟨b2, d2, e4, g2⟩ := FO.fs k2
  exact ⟨b1, _, d1, b2, _, d2, by rw [← e3, ← e4], g1, g2⟩
/-- The blocks of the streams' rows of fields. -/
def hgF (hg : List (Value × Value)) : List Nat := (hg.flatMap fun x => [x.1.ownBlock, x.2.ownBlock]).filterMap id
theorem rowsF_eq (o i : Value) (hg : List (Value × Value)) : rowsF o i hg = [o.ownBlock, i.ownBlock].filterMap id ++ hgF hg := by
  unfold rowsF hgF
  rw [← List.filterMap_append]
  rfl
theorem hgF_snoc (hg : List (Value × Value)) (x : Value × Value) : hgF (hg ++ [x]) = hgF hg ++ hgF [x] := by
  unfold hgF
  rw [List.flatMap_append, List.filterMap_append]
theorem hgF_cons (hg : List (Value × Value)) (x : Value × Value) : hgF (x :: hg) = hgF [x] ++ hgF hg := by
  have : x :: hg = [x] ++ hg := rfl
  rw [this]
  unfold hgF
  rw [List.flatMap_append, List.filterMap_append]
theorem mem_hgF {hg : List (Value × Value)} {g : Nat} (h : g ∈ hgF hg) : ∃ (k : Nat) (x : Value × Value), hg[k]? = some x ∧ (x.1.ownBlock = some g ∨ x.2.ownBlock = some g) := by
  unfold hgF at h
  obtain ⟨v, hv, e⟩ := List.mem_filterMap.1 h
  obtain ⟨x, hx, hv⟩ := List.mem_flatMap.1 hv
  obtain ⟨k, hk⟩ := List.getElem?_of_mem hx
  refine ⟨k, x, hk, ?_⟩
  simp at hv
  rcases hv with rfl | rfl
  · exact .inl e
  · exact .inr e
theorem two_mem {a b : Option Nat} {g : Nat} (h : g ∈ [a, b].filterMap id) : a = some g ∨ b = some g := by
  obtain ⟨v, hv, e⟩ := List.mem_filterMap.1 h
  simp at hv
  rcases hv with rfl | rfl
  · exact .inl e
  · exact .inr e
theorem two_nodup {a b : Option Nat} (h : ∀ g g', a = some g → b = some g' → g < g') : ([a, b].filterMap id).Nodup := by
  cases a with
  | none => cases b <;> simp
  | some g =>
    cases b with
    | none => simp
    | some g' =>
      have := h g g' rfl rfl
      simp
      omega
/-- Rows made behind one another are apart. -/
theorem nodup_behind {l m : List Nat} {N : Nat} (h1 : l.Nodup) (h2 : m.Nodup) (hl : ∀ g ∈ l, g < N) (hm : ∀ g ∈ m, N ≤ g) : (l ++ m).Nodup :=
  List.nodup_append.2 ⟨h1, h2, fun a ha b hb => by have := hl a ha; have := hm b hb; omega⟩
theorem own_lt {w : World} {base size n : Nat} {t : TypeId} {v : Value} {xs : List Value} (h : w.ownsRow base t size v n xs) {g : Nat} (hg : v.ownBlock = some g) : base ≤ g ∧ g < w.heap.size := h.lt g hg
end Go.Proofs.Ytdnajdobmlgmiaa

namespace Go.Proofs.Ytdnajdobmlgmiaa
open Go.RowKit
set_option linter.unusedVariables false

theorem map_set_fst {L : List (Nat × Array Value × TypeId)} {k b : Nat} {cs cs' : Array Value} {t : TypeId} (hk : L[k]? = some (b, cs, t)) : (L.set k (b, cs', t)).map (·.1) = L.map (·.1) := by
  apply List.ext_getElem?
  intro j
  rw [List.getElem?_map, List.getElem?_map]
  by_cases hj : k = j
  · subst hj
    rw [List.getElem?_set_self (List.getElem?_eq_some_iff.1 hk).1, hk]
    rfl
  · rw [List.getElem?_set_ne hj]
/-- A walk under way that has made boxes, and turned nothing else. -/
structure SB (w V : World) (L : List (Nat × Array Value × TypeId)) : Prop where
  bs : ∀ x ∈ L, V.heap[x.1]? = some (.cells x.2.1 x.2.2 (0, 0))
  ge : ∀ x ∈ L, w.heap.size ≤ x.1
  nd : (L.map (·.1)).Nodup
  bel : Below w.heap.size w V
theorem SB.at {w V : World} {L : List (Nat × Array Value × TypeId)} (h : SB w V L) (k : Nat) {b : Nat} {cs : Array Value} {t : TypeId} (hk : L[k]? = some (b, cs, t)) : V.heap[b]? = some (.cells cs t (0, 0)) :=
  h.bs _ (List.mem_of_getElem? hk)
theorem SB.start (w : World) : SB w w [] := ⟨(by intro x hx; cases hx), (by intro x hx; cases hx), List.nodup_nil, Below.refl _ _⟩
theorem SB.below {w V V' : World} {L : List (Nat × Array Value × TypeId)} (h : SB w V L) (hb : Below V.heap.size V V') : SB w V' L :=
  ⟨fun x hx => blkF hb (h.bs x hx), h.ge, h.nd, btF h.bel hb⟩
theorem SB.alloc {w V : World} {L : List (Nat × Array Value × TypeId)} (h : SB w V L) (cs : Array Value) (t : TypeId) : SB w (V.alloc (.cells cs t)) (L ++ [(V.heap.size, cs, t)]) := by
  have hb : Below V.heap.size V (V.alloc (.cells cs t)) := (Below.refl _ _).alloc (Nat.le_refl _) _
  refine ⟨?_, ?_, ?_, btF h.bel hb⟩
  · intro x hx
    rcases List.mem_append.1 hx with hx | hx
    · exact blkF hb (h.bs x hx)
    · rw [List.mem_singleton.1 hx]
      exact heap_alloc_last V _
  · intro x hx
    rcases List.mem_append.1 hx with hx | hx
    · exact h.ge x hx
    · rw [List.mem_singleton.1 hx]
      exact h.bel.size
  · rw [List.map_append]
    refine List.nodup_append.2 ⟨h.nd, (List.nodup_cons.2 ⟨by simp, List.nodup_nil⟩), ?_⟩
    intro a ha b hb2
    rw [List.mem_singleton.1 hb2]
    obtain ⟨x, hx, rfl⟩ := List.mem_map.1 ha
    have := (Array.getElem?_eq_some_iff.1 (h.bs x hx)).1
    show x.1 ≠ V.heap.size
    omega
theorem SB.box {w V V' : World} {L : List (Nat × Array Value × TypeId)} (h : SB w V L) (k : Nat) {b : Nat} {cs : Array Value} {t : TypeId} (hk : L[k]? = some (b, cs, t)) (cs' : Array Value)
    (hb : V'.heap[b]? = some (.cells cs' t (0, 0))) (hp : Kp (fun g => g = b) V V') : SB w V' (L.set k (b, cs', t)) := by
  have hkl := (List.getElem?_eq_some_iff.1 hk).1
  have hge := h.ge _ (List.mem_of_getElem? hk)
  refine ⟨?_, ?_, by rw [map_set_fst hk]; exact h.nd, ⟨hp.os.trans h.bel.os, hp.tape.trans h.bel.tape, hp.output.trans h.bel.output, Nat.le_trans h.bel.size hp.size, fun g hg => (hp.block g (Nat.lt_of_lt_of_le hg h.bel.size) (fun e => by have : g = b := e; have : w.heap.size ≤ b := hge; omega)).trans (h.bel.block g hg)⟩⟩
  · intro x hx
    obtain ⟨j, hj⟩ := List.getElem?_of_mem hx
    by_cases hjk : k = j
    · subst hjk
      rw [List.getElem?_set_self hkl] at hj
      injection hj with hj
      subst hj
      exact hb
    · rw [List.getElem?_set_ne hjk] at hj
      refine hp.blk (h.bs x (List.mem_of_getElem? hj)) ?_
      intro hxb
      have e1 : (L.map (·.1))[j]? = some x.1 := by rw [List.getElem?_map, hj]; rfl
      have e2 : (L.map (·.1))[k]? = some b := by rw [List.getElem?_map, hk]; rfl
      have hjl := (List.getElem?_eq_some_iff.1 e1).1
      exact hjk (((List.getElem?_inj hjl h.nd).1 (by rw [e1, e2, hxb])).symm)
  · intro x hx
    obtain ⟨j, hj⟩ := List.getElem?_of_mem hx
    by_cases hjk : k = j
    · subst hjk
      rw [List.getElem?_set_self hkl] at hj
      injection hj with hj
      subst hj
      exact hge
    · rw [List.getElem?_set_ne hjk] at hj
      exact h.ge x (List.mem_of_getElem? hj)
theorem SB.put {w V : World} {L : List (Nat × Array Value × TypeId)} (h : SB w V L) (k : Nat) {b : Nat} {cs : Array Value} {t : TypeId} (hk : L[k]? = some (b, cs, t)) (j : Nat) (v : Value) (cs' : Array Value) (hc : cs.setIfInBounds j v = cs') : SB w (V.setCell ⟨b, j, none⟩ v) (L.set k (b, cs', t)) := by
  refine h.box k hk cs' ?_ (Kp.setCell ⟨b, j, none⟩ v rfl)
  have := setc_heapW j v (h.at k hk)
  rw [hc] at this
  exact this
theorem SB.row {w V : World} {L : List (Nat × Array Value × TypeId)} (h : SB w V L) (k : Nat) {b : Nat} {cs : Array Value} {t : TypeId} (hk : L[k]? = some (b, cs, t)) (cs' : Array Value) : SB w (V.setRow b cs') (L.set k (b, cs', t)) :=
  h.box k hk cs' (setRow_heap _ _ _ _ _ _ (h.at k hk)) (Kp.grown (grown_setRowT V b cs') (fun g e => by injection e with e; exact e.symm))
end Go.Proofs.Ytdnajdobmlgmiaa
