import Derived.Test.YtghgcobnmmommaaDoorEdE1
import Derived.Deep.AppendLies
import Derived.Laws.AppendOwnNone
import Derived.Great.BuildSlice
import Derived.Test.YtghgcobnmmommaaDoorCB
namespace Go.Proofs.YtghgcobnmmommaaDoor
open Go.RowKit
set_option linter.unusedVariables false

abbrev zSmC : Array Value := #[.int .i64 0, .int .i64 0, .slice none 0 0, .string ⟨#[]⟩, .bool false, .bool false, .int .i64 0, .slice none 0 0, .string ⟨#[]⟩, .bool false, .int .i64 0, .int .i64 0]
theorem smC_one (s : Sm) (ah ag : Option Addr) (nh ch ng cg : Nat) : ∀ u ∈ smC s (.slice ah nh ch) (.slice ag ng cg), u.oneCell' = true := by
  intro u hu
  simp [smC] at hu
  rcases hu with rfl | rfl | rfl | rfl | rfl | rfl | rfl | rfl | rfl | rfl | rfl | rfl <;> rfl
theorem zSm_fill (cs : List Value) (h : cs.length = 12) : Instr.fill (fun i => some (i * 12, 12)) ((Array.range (1 * 12)).map ((Value.agg zSmC).cells[· % (Value.agg zSmC).cells.size]!)) [(0, .agg cs.toArray)] = some cs.toArray := by
  match cs, h with
  | [a0, a1, a2, a3, a4, a5, a6, a7, a8, a9, b0, b1], _ =>
    show _ = _
    kernel_rfl
abbrev zFrC : Array Value := #[.int .i64 0, .bool false, .int .i64 0, .string ⟨#[]⟩]
theorem zFr_fill1 (f : Fr) : Instr.fill (fun i => some (i * 4, 4)) ((Array.range (1 * 4)).map ((Value.agg zFrC).cells[· % (Value.agg zFrC).cells.size]!)) [(0, .agg (frC f).toArray)] = some (frC f).toArray := by kernel_rfl
theorem zFr_fill2 (f g : Fr) : Instr.fill (fun i => some (i * 4, 4)) ((Array.range (2 * 4)).map ((Value.agg zFrC).cells[· % (Value.agg zFrC).cells.size]!)) [(0, .agg (frC f).toArray), (1, .agg (frC g).toArray)] = some (frC f ++ frC g).toArray := by kernel_rfl
/-- Blocks of two kinds are two. -/
theorem typ_ne {w : World} {g g' : Nat} {c c' : Array Value} {t t' : TypeId} {f f' : Nat × Nat} (h : w.heap[g]? = some (.cells c t f)) (h' : w.heap[g']? = some (.cells c' t' f')) (hne : t ≠ t') : g ≠ g' := by
  rintro rfl
  rw [h] at h'
  injection h' with h'
  injection h' with _ e _
  exact hne e
theorem own_typ {w : World} {base size n cap g o : Nat} {t : TypeId} {xs : List Value} (h : w.ownsRow base t size (.slice (some ⟨g, o, none⟩) n cap) n xs) : base ≤ g ∧ ∃ cur, w.heap[g]? = some (.cells cur t (0, 0)) := by
  rcases h.2 with ⟨hv, _⟩ | ⟨g', c, cur, hv, hb, hg, _⟩
  · injection hv with e1; cases e1
  · injection hv with e1 e2 e3
    injection e1 with e1
    injection e1 with e1
    subst e1
    exact ⟨hb, cur, hg⟩
theorem own_row_typ {w : World} {base size n : Nat} {t : TypeId} {v : Value} {xs : List Value} (h : w.ownsRow base t size v n xs) : ∀ g, v.ownBlock = some g → ∃ cur, w.heap[g]? = some (.cells cur t (0, 0)) := by
  intro g hg
  rcases h.2 with ⟨rfl, _⟩ | ⟨g', c, cur, rfl, hb, hg', _⟩
  · cases hg
  · have : g' = g := by injection hg
    subst this
    exact ⟨cur, hg'⟩
end Go.Proofs.YtghgcobnmmommaaDoor

namespace Go.Proofs.YtghgcobnmmommaaDoor
open Go.RowKit
set_option linter.unusedVariables false

theorem kpCell {X : Nat → Prop} {w W : World} {p : Addr} (v : Value) (h : Kp X w W) (hp : w.heap.size ≤ p.block) : Kp X w (W.setCell p v) :=
  ⟨h.os, h.tape, h.output, by have := h.size; simpa [World.setCell] using this, fun k hk hn => (Below.heap_setCell W p v k (by omega)).trans (h.block k hk hn)⟩
theorem setOther {W : World} {B C o : Nat} {x : Obj} (v : Value) (h : W.heap[C]? = some x) (hne : C ≠ B) : (W.setCell ⟨B, o, none⟩ v).heap[C]? = some x := (Below.heap_setCell W ⟨B, o, none⟩ v C hne).trans h
theorem belCell {n : Nat} {w W : World} {B o : Nat} (h : Below n w W) (hB : n ≤ B) (v : Value) : Below n w (W.setCell ⟨B, o, none⟩ v) := h.setCell (p := ⟨B, o, none⟩) hB v
/-- What is of another kind than the row that was written stands. -/
theorem grown_blk {w w' : World} {row : Option Nat} {t : TypeId} (hg : w.grownBy w' row) (hr : ∀ g, row = some g → ∃ cur, w.heap[g]? = some (.cells cur t (0, 0))) {B : Nat} {cs : Array Value} {t' : TypeId} {fr : Nat × Nat} (h : w.heap[B]? = some (.cells cs t' fr)) (hne : t ≠ t') : w'.heap[B]? = some (.cells cs t' fr) :=
  (hg.block B (Array.getElem?_eq_some_iff.1 h).1 (fun e => by
    obtain ⟨cur, hc⟩ := hr B e.symm
    rw [h] at hc
    injection hc with hc
    injection hc with _ e2 _
    exact hne e2.symm)).trans h
theorem own_row {W W' : World} {base size n : Nat} {t t' : TypeId} {v : Value} {xs : List Value} {row : Option Nat} (h : W.ownsRow base t' size v n xs) (hg : W.grownBy W' row) (hr : ∀ g, row = some g → ∃ cur, W.heap[g]? = some (.cells cur t (0, 0))) (ht : t ≠ t') : W'.ownsRow base t' size v n xs := by
  refine h.kept hg ?_
  cases hv : v.ownBlock with
  | none => exact .inl rfl
  | some g =>
    refine .inr (fun e => ?_)
    obtain ⟨cur, hc⟩ := own_row_typ h g hv
    obtain ⟨cur', hc'⟩ := hr g e.symm
    exact typ_ne hc' hc ht rfl
theorem one_row {W : World} {B : Nat} {cs : Array Value} {t : TypeId} (h : W.heap[B]? = some (.cells cs t (0, 0))) : ∀ g, some B = some g → ∃ cur, W.heap[g]? = some (.cells cur t (0, 0)) := by
  intro g e
  injection e with e
  subst e
  exact ⟨cs, h⟩
theorem grown_setCell (W : World) (B o : Nat) (v : Value) : W.grownBy (W.setCell ⟨B, o, none⟩ v) (some B) :=
  ⟨rfl, rfl, rfl, by simp [World.setCell], fun k hk hn => Below.heap_setCell _ _ _ _ (fun e => hn (by rw [e]))⟩

end Go.Proofs.YtghgcobnmmommaaDoor

namespace Go.Proofs.YtghgcobnmmommaaDoor
open Go.RowKit
set_option linter.unusedVariables false

theorem FsX.mono {w : World} {X Y : Nat → Prop} {a : Option Addr} {n c : Nat} {fs : List Fd} (h : FsX w X a n c fs) (hy : ∀ g, Y g → g < w.heap.size → X g) : FsX w Y a n c fs :=
  ⟨h.1, fun hn g o e hg => h.2 hn g o e (hy g hg (h.1.lt2 g o e hn))⟩
theorem Lin.write {w : World} {s0 q0 s q : Value} {V : World} (h : Lin w s0 q0 V s q) {B : Nat} (hB : w.heap.size ≤ B) (o : Nat) (v : Value) : Lin w s0 q0 (V.setCell ⟨B, o, none⟩ v) s q :=
  ⟨kpCell v h.kp hB, h.rows⟩
end Go.Proofs.YtghgcobnmmommaaDoor

namespace Go.Proofs.YtghgcobnmmommaaDoor
open Go.RowKit
set_option linter.unusedVariables false

/-- The blocks of all rows of fields. -/
def rowsF (o i : Value) (hg : List (Value × Value)) : List Nat := (o.ownBlock :: i.ownBlock :: hg.flatMap fun x => [x.1.ownBlock, x.2.ownBlock]).filterMap id
/-- The cells of streams, their heads being these slices. -/
def cellsS : List Sm → List (Value × Value) → List Value
  | s :: r, x :: hg => smC s x.1 x.2 ++ cellsS r hg
  | _, _ => []
theorem cellsS_length : ∀ (l : List Sm) (hg : List (Value × Value)), hg.length = l.length → (cellsS l hg).length = l.length * 12
  | [], _, _ => by simp [cellsS]
  | s :: r, [], h => by simp at h
  | s :: r, x :: hg, h => by
    show (smC s x.1 x.2 ++ cellsS r hg).length = _
    rw [List.length_append, cellsS_length r hg (by simpa using h), List.length_cons]
    show 12 + r.length * 12 = _
    omega
theorem cellsS_at : ∀ (l : List Sm) (hg : List (Value × Value)), hg.length = l.length → ∀ (k : Nat) (s : Sm) (x : Value × Value), l[k]? = some s → hg[k]? = some x → ∀ j, j < 12 → (cellsS l hg)[k * 12 + j]? = (smC s x.1 x.2)[j]?
  | [], _, _, _, _, _, hk, _, _, _ => by simp at hk
  | s :: r, [], h, _, _, _, _, _, _, _ => by simp at h
  | s :: r, y :: hg, h, k, t, x, hk, hx, j, hj => by
    have e1 : (smC s y.1 y.2).length = 12 := rfl
    show (smC s y.1 y.2 ++ cellsS r hg)[k * 12 + j]? = _
    cases k with
    | zero =>
      simp at hk hx
      subst hk; subst hx
      rw [Nat.zero_mul, Nat.zero_add, List.getElem?_append_left (by rw [e1]; exact hj)]
    | succ k =>
      simp at hk hx
      rw [List.getElem?_append_right (by rw [e1]; omega), e1, show (k + 1) * 12 + j - 12 = k * 12 + j by omega]
      exact cellsS_at r hg (by simpa using h) k t x hk hx j hj
theorem cellsS_snoc : ∀ (l : List Sm) (hg : List (Value × Value)) (s : Sm) (x : Value × Value), hg.length = l.length → cellsS (l ++ [s]) (hg ++ [x]) = cellsS l hg ++ smC s x.1 x.2
  | [], [], s, x, _ => by simp [cellsS]
  | [], y :: hg, _, _, h => by simp at h
  | a :: r, [], _, _, h => by simp at h
  | a :: r, y :: hg, s, x, h => by
    show smC a y.1 y.2 ++ cellsS (r ++ [s]) (hg ++ [x]) = (smC a y.1 y.2 ++ cellsS r hg) ++ _
    rw [cellsS_snoc r hg s x (by simpa using h), List.append_assoc]
theorem cellsS_SmL {F : FP} : ∀ (l : List Sm) (hg : List (Value × Value)), hg.length = l.length → (∀ (k : Nat) (t : Sm) (x : Value × Value), l[k]? = some t → hg[k]? = some x → ∃ a1 n1 c1 a2 n2 c2, x = (.slice a1 n1 c1, .slice a2 n2 c2) ∧ F a1 n1 c1 t.head ∧ F a2 n2 c2 t.got) → SmL F l (cellsS l hg)
  | [], _, _, _ => by simp [cellsS, SmL]
  | s :: r, [], h, _ => by simp at h
  | s :: r, x :: hg, h, hd => by
    obtain ⟨a1, n1, c1, a2, n2, c2, rfl, h1, h2⟩ := hd 0 s x rfl rfl
    exact ⟨a1, n1, c1, a2, n2, c2, cellsS r hg, rfl, h1, h2, cellsS_SmL r hg (by simpa using h) (fun k t y hk hy => hd (k + 1) t y hk hy)⟩
/-- The blocks of the streams' rows of fields. -/
def hgF (hg : List (Value × Value)) : List Nat := (hg.flatMap fun x => [x.1.ownBlock, x.2.ownBlock]).filterMap id
theorem rowsF_eq (o i : Value) (hg : List (Value × Value)) : rowsF o i hg = [o.ownBlock, i.ownBlock].filterMap id ++ hgF hg := by
  unfold rowsF hgF
  rw [← List.filterMap_append]
  rfl
theorem hgF_snoc (hg : List (Value × Value)) (x : Value × Value) : hgF (hg ++ [x]) = hgF hg ++ hgF [x] := by
  unfold hgF
  rw [List.flatMap_append, List.filterMap_append]
theorem hgF_cons (hg : List (Value × Value)) (x : Value × Value) : hgF (x :: hg) = hgF [x] ++ hgF hg := by
  have : x :: hg = [x] ++ hg := rfl
  rw [this]
  unfold hgF
  rw [List.flatMap_append, List.filterMap_append]
theorem mem_hgF {hg : List (Value × Value)} {g : Nat} (h : g ∈ hgF hg) : ∃ (k : Nat) (x : Value × Value), hg[k]? = some x ∧ (x.1.ownBlock = some g ∨ x.2.ownBlock = some g) := by
  unfold hgF at h
  obtain ⟨v, hv, e⟩ := List.mem_filterMap.1 h
  obtain ⟨x, hx, hv⟩ := List.mem_flatMap.1 hv
  obtain ⟨k, hk⟩ := List.getElem?_of_mem hx
  refine ⟨k, x, hk, ?_⟩
  simp at hv
  rcases hv with rfl | rfl
  · exact .inl e
  · exact .inr e
theorem two_mem {a b : Option Nat} {g : Nat} (h : g ∈ [a, b].filterMap id) : a = some g ∨ b = some g := by
  obtain ⟨v, hv, e⟩ := List.mem_filterMap.1 h
  simp at hv
  rcases hv with rfl | rfl
  · exact .inl e
  · exact .inr e
theorem two_nodup {a b : Option Nat} (h : ∀ g g', a = some g → b = some g' → g < g') : ([a, b].filterMap id).Nodup := by
  cases a with
  | none => cases b <;> simp
  | some g =>
    cases b with
    | none => simp
    | some g' =>
      have := h g g' rfl rfl
      simp
      omega
/-- Rows made behind one another are apart. -/
theorem nodup_behind {l m : List Nat} {N : Nat} (h1 : l.Nodup) (h2 : m.Nodup) (hl : ∀ g ∈ l, g < N) (hm : ∀ g ∈ m, N ≤ g) : (l ++ m).Nodup :=
  List.nodup_append.2 ⟨h1, h2, fun a ha b hb => by have := hl a ha; have := hm b hb; omega⟩
theorem own_lt {w : World} {base size n : Nat} {t : TypeId} {v : Value} {xs : List Value} (h : w.ownsRow base t size v n xs) {g : Nat} (hg : v.ownBlock = some g) : base ≤ g ∧ g < w.heap.size := h.lt g hg
end Go.Proofs.YtghgcobnmmommaaDoor

namespace Go.Proofs.YtghgcobnmmommaaDoor
open Go.RowKit
set_option linter.unusedVariables false

theorem map_set_fst {L : List (Nat × Array Value × TypeId)} {k b : Nat} {cs cs' : Array Value} {t : TypeId} (hk : L[k]? = some (b, cs, t)) : (L.set k (b, cs', t)).map (·.1) = L.map (·.1) := by
  apply List.ext_getElem?
  intro j
  rw [List.getElem?_map, List.getElem?_map]
  by_cases hj : k = j
  · subst hj
    rw [List.getElem?_set_self (List.getElem?_eq_some_iff.1 hk).1, hk]
    rfl
  · rw [List.getElem?_set_ne hj]
/-- A walk under way that has made boxes, and turned nothing else. -/
structure SB (w V : World) (L : List (Nat × Array Value × TypeId)) : Prop where
  bs : ∀ x ∈ L, V.heap[x.1]? = some (.cells x.2.1 x.2.2 (0, 0))
  ge : ∀ x ∈ L, w.heap.size ≤ x.1
  nd : (L.map (·.1)).Nodup
  bel : Below w.heap.size w V
theorem SB.at {w V : World} {L : List (Nat × Array Value × TypeId)} (h : SB w V L) (k : Nat) {b : Nat} {cs : Array Value} {t : TypeId} (hk : L[k]? = some (b, cs, t)) : V.heap[b]? = some (.cells cs t (0, 0)) :=
  h.bs _ (List.mem_of_getElem? hk)
theorem SB.start (w : World) : SB w w [] := ⟨(by intro x hx; cases hx), (by intro x hx; cases hx), List.nodup_nil, Below.refl _ _⟩
theorem SB.below {w V V' : World} {L : List (Nat × Array Value × TypeId)} (h : SB w V L) (hb : Below V.heap.size V V') : SB w V' L :=
  ⟨fun x hx => blkF hb (h.bs x hx), h.ge, h.nd, btF h.bel hb⟩
theorem SB.alloc {w V : World} {L : List (Nat × Array Value × TypeId)} (h : SB w V L) (cs : Array Value) (t : TypeId) : SB w (V.alloc (.cells cs t)) (L ++ [(V.heap.size, cs, t)]) := by
  have hb : Below V.heap.size V (V.alloc (.cells cs t)) := (Below.refl _ _).alloc (Nat.le_refl _) _
  refine ⟨?_, ?_, ?_, btF h.bel hb⟩
  · intro x hx
    rcases List.mem_append.1 hx with hx | hx
    · exact blkF hb (h.bs x hx)
    · rw [List.mem_singleton.1 hx]
      exact heap_alloc_last V _
  · intro x hx
    rcases List.mem_append.1 hx with hx | hx
    · exact h.ge x hx
    · rw [List.mem_singleton.1 hx]
      exact h.bel.size
  · rw [List.map_append]
    refine List.nodup_append.2 ⟨h.nd, (List.nodup_cons.2 ⟨by simp, List.nodup_nil⟩), ?_⟩
    intro a ha b hb2
    rw [List.mem_singleton.1 hb2]
    obtain ⟨x, hx, rfl⟩ := List.mem_map.1 ha
    have := (Array.getElem?_eq_some_iff.1 (h.bs x hx)).1
    show x.1 ≠ V.heap.size
    omega
theorem SB.box {w V V' : World} {L : List (Nat × Array Value × TypeId)} (h : SB w V L) (k : Nat) {b : Nat} {cs : Array Value} {t : TypeId} (hk : L[k]? = some (b, cs, t)) (cs' : Array Value)
    (hb : V'.heap[b]? = some (.cells cs' t (0, 0))) (hp : Kp (fun g => g = b) V V') : SB w V' (L.set k (b, cs', t)) := by
  have hkl := (List.getElem?_eq_some_iff.1 hk).1
  have hge := h.ge _ (List.mem_of_getElem? hk)
  refine ⟨?_, ?_, by rw [map_set_fst hk]; exact h.nd, ⟨hp.os.trans h.bel.os, hp.tape.trans h.bel.tape, hp.output.trans h.bel.output, Nat.le_trans h.bel.size hp.size, fun g hg => (hp.block g (Nat.lt_of_lt_of_le hg h.bel.size) (fun e => by have : g = b := e; have : w.heap.size ≤ b := hge; omega)).trans (h.bel.block g hg)⟩⟩
  · intro x hx
    obtain ⟨j, hj⟩ := List.getElem?_of_mem hx
    by_cases hjk : k = j
    · subst hjk
      rw [List.getElem?_set_self hkl] at hj
      injection hj with hj
      subst hj
      exact hb
    · rw [List.getElem?_set_ne hjk] at hj
      refine hp.blk (h.bs x (List.mem_of_getElem? hj)) ?_
      intro hxb
      have e1 : (L.map (·.1))[j]? = some x.1 := by rw [List.getElem?_map, hj]; rfl
      have e2 : (L.map (·.1))[k]? = some b := by rw [List.getElem?_map, hk]; rfl
      have hjl := (List.getElem?_eq_some_iff.1 e1).1
      exact hjk (((List.getElem?_inj hjl h.nd).1 (by rw [e1, e2, hxb])).symm)
  · intro x hx
    obtain ⟨j, hj⟩ := List.getElem?_of_mem hx
    by_cases hjk : k = j
    · subst hjk
      rw [List.getElem?_set_self hkl] at hj
      injection hj with hj
      subst hj
      exact hge
    · rw [List.getElem?_set_ne hjk] at hj
      exact h.ge x (List.mem_of_getElem? hj)
theorem SB.put {w V : World} {L : List (Nat × Array Value × TypeId)} (h : SB w V L) (k : Nat) {b : Nat} {cs : Array Value} {t : TypeId} (hk : L[k]? = some (b, cs, t)) (j : Nat) (v : Value) (cs' : Array Value) (hc : cs.setIfInBounds j v = cs') : SB w (V.setCell ⟨b, j, none⟩ v) (L.set k (b, cs', t)) := by
  refine h.box k hk cs' ?_ (Kp.setCell ⟨b, j, none⟩ v rfl)
  have := setc_heapW j v (h.at k hk)
  rw [hc] at this
  exact this
theorem SB.row {w V : World} {L : List (Nat × Array Value × TypeId)} (h : SB w V L) (k : Nat) {b : Nat} {cs : Array Value} {t : TypeId} (hk : L[k]? = some (b, cs, t)) (cs' : Array Value) : SB w (V.setRow b cs') (L.set k (b, cs', t)) :=
  h.box k hk cs' (setRow_heap _ _ _ _ _ _ (h.at k hk)) (Kp.grown (grown_setRowT V b cs') (fun g e => by injection e with e; exact e.symm))
end Go.Proofs.YtghgcobnmmommaaDoor
