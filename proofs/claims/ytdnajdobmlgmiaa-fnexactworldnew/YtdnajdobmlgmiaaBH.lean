import Derived.Test.YtdnajdobmlgmiaaImpG
import Derived.Test.YtdnajdobmlgmiaaBD
namespace Go.Proofs.Ytdnajdobmlgmiaa
open Go.RowKit Go.Shelf
set_option linter.unusedVariables false
attribute [local go_sem] Oper.semAt_some

theorem KeepC.refl (B1 B2 : Nat) (W : World) : KeepC B1 B2 W W := ⟨Nat.le_refl _, fun _ _ _ h _ _ _ => h⟩
theorem keepC_b {B1 B2 : Nat} {w : World} (W : World) (l : Nat) (o o' : Obj) (hl : w.heap.size ≤ l) (h : W.heap[l]? = some o) (ho : o.isCells = false) (hw : o.isWalk = false) : KeepC B1 B2 W (W.putObj l o') := by
  refine ⟨(grownBy_putObj' W l o').size, fun b cs t hb _ _ _ => ?_⟩
  have hne : b ≠ l := by intro e; subst e; rw [hb] at h; cases h; cases ho
  rw [World.putObj_heap_other hne]
  exact hb
theorem KeepC.of_below {B1 B2 : Nat} {W W' : World} (h : Below W.heap.size W W') : KeepC B1 B2 W W' :=
  ⟨h.size, fun b cs t hb _ _ _ => (h.block b (blk_lt hb)).trans hb⟩
theorem KeepC.set1 {B1 B2 : Nat} (W : World) (o : Nat) (v : Value) : KeepC B1 B2 W (W.setCell ⟨B1, o, none⟩ v) :=
  ⟨(KeepsWalks.setCell W _ v).size, fun b cs t hb h1 _ _ => (Below.heap_setCell W ⟨B1, o, none⟩ v b (fun e => h1 e)).trans hb⟩
theorem KeepC.set2 {B1 B2 : Nat} (W : World) (o : Nat) (v : Value) : KeepC B1 B2 W (W.setCell ⟨B2, o, none⟩ v) :=
  ⟨(KeepsWalks.setCell W _ v).size, fun b cs t hb _ h2 _ => (Below.heap_setCell W ⟨B2, o, none⟩ v b (fun e => h2 e)).trans hb⟩
theorem KeepC.app {B1 B2 : Nat} {W w3 : World} {tmp : Obj} {base size k : Nat} {v : Value} {xs : List Value} (hr : W.ownsRow base 5 size v k xs) (hgrow : (W.alloc tmp).grownBy w3 v.ownBlock) : KeepC B1 B2 W w3 :=
  ⟨Nat.le_trans (by simp) hgrow.size, fun b cs t hb _ _ h3 => kept_app hb h3 hr hgrow⟩
theorem keepsOthers_of_below {W W' : World} (h : Below W.heap.size W W') : KeepsOthers W W' :=
  ⟨h.size, fun k o hk _ => (h.block k (blk_lt hk)).trans hk⟩

theorem Boxed.other2 {W : World} {B : Nat} {t : TypeId} {u : Value} (h : Boxed W B t u) (p : Addr) (v : Value) (hne : B ≠ p.block) : Boxed (W.setCell p v) B t u :=
  (Below.heap_setCell W p v B hne).trans h
theorem own_set {W : World} {base : Nat} {e : TypeId} {size : Nat} {v : Value} {k : Nat} {xs : List Value} (h : W.ownsRow base e size v k xs) (p : Addr) (u : Value) (hne : some p.block ≠ v.ownBlock) : (W.setCell p u).ownsRow base e size v k xs := by
  refine ⟨h.1, ?_⟩
  rcases h.2 with h0 | ⟨g, cap, cur, rfl, h2, h3, h4⟩
  · exact .inl h0
  · refine .inr ⟨g, cap, cur, rfl, h2, ?_, h4⟩
    rw [Below.heap_setCell W p u g (fun e => hne (by rw [← e]; rfl))]
    exact h3
end Go.Proofs.Ytdnajdobmlgmiaa

namespace Go.Proofs.Ytdnajdobmlgmiaa
open Go.RowKit Go.Shelf
set_option linter.unusedVariables false

theorem grown_setRow (w : World) (g : Nat) (cs : Array Value) : w.grownBy (w.setRow g cs) (some g) := by
  refine ⟨rfl, rfl, rfl, by simp [World.setRow], fun k _ hk => ?_⟩
  show (w.heap.modify g _)[k]? = _
  rw [Array.getElem?_modify, if_neg (fun e => hk (by rw [e]))]
theorem boxed_below {W W' : World} {B : Nat} {t : TypeId} {v : Value} (h : Boxed W B t v) (hb : Below W.heap.size W W') : Boxed W' B t v := (hb.block B (blk_lt h)).trans h
theorem KeepC.grown2 {B1 B2 : Nat} {W W' : World} (hg : W.grownBy W' (some B2)) : KeepC B1 B2 W W' :=
  ⟨hg.size, fun b cs t hb _ h2 _ => (hg.block b (blk_lt hb) (fun e => h2 (by injection e))).trans hb⟩
theorem below_box2 {n₀ : Nat} {W W' : World} {B : Nat} (hn : n₀ ≤ W.heap.size) (hB : n₀ ≤ B) (hg : W.grownBy W' (some B)) : Below n₀ W W' :=
  (Below.refl n₀ W).grown hg hn (fun k e => by injection e with e; omega)
theorem KeepC.appended {W w1 : World} {B B2 : Nat} {size : Nat} {v v' : Value} {k base : Nat} {xs : List Value} {tmp : Obj} (hrow : W.ownsRow base 5 size v k xs) (hgrow : (W.alloc tmp).grownBy w1 v.ownBlock) : KeepC B B2 W (w1.setCell ⟨B, 0, none⟩ v') :=
  (KeepC.app hrow hgrow).trans (KeepC.set1 _ _ _)
end Go.Proofs.Ytdnajdobmlgmiaa

namespace Go.Proofs.Ytdnajdobmlgmiaa
open Go.RowKit Go.Shelf
set_option linter.unusedVariables false

/-- 'append' in a region that draws its order. -/
theorem stepIn_append {F : Fence} {n : Nat} {P : Program} (w : World) {ops : Array Oper} {o : Oper} {a : Act} {K : Act → World → Prop} {Q : Exit → Act → World → Prop} {E : Prop}
    (hg : o.guard = none) (s x : Operand) (t : TypeId) (hop : o.op = Op.call { callee := Callee.builtin Builtin.append, args := #[s, x], argTypes := #[t, t] })
    (base : Nat) (e : TypeId) (i : TypeInfo) (z : Value) (size bytes : Nat) (h1 : P.underlying t = some (.slice e)) (h2 : P.info? e = some i) (h3 : i.zero = some z) (h4 : i.size = size) (h5 : i.bytes = bytes) (h6 : z.cells.size = size) (h7 : 0 < size)
    (v : Value) (k : Nat) (xs : List Value) (hs : a.eval s = v) (hown : w.ownsRow base e size v k xs) (ad : Addr) (m c : Nat) (news : List Value) (hx : a.eval x = .slice (some ad) m c) (hn : news.length = m * size)
    (hc : ∀ j u, news[j]? = some u → w.cell? (ad.add j) = some u) (h1c : ∀ u ∈ news, u.oneCell' = true) (b1 : k + m ≤ maxLen) (b2 : (k + m) * bytes ≤ 140737488355328) (b3 : base ≤ w.heap.size)
    (hK : ∀ v' w', w'.ownsRow base e size v' (k + m) (xs ++ news) → w.grownBy w' v.ownBlock → K (a.put o.dst v') w') :
    if Region.wanted o (yielded ops a.tmps) = true then Oper.wpIn F n P o a w K Q else E := by
  have hw : Region.wanted o (yielded ops a.tmps) = true := by simp [Region.wanted, hg]
  rw [if_pos hw]
  obtain ⟨v', w', hrun, r1, r2, r3⟩ := run_append_own (P := P) w base t o.type e i z size bytes h1 h2 h3 h4 h5 h6 h7 v k xs hown ad m c news hn hc h1c b1 b2 b3
  unfold Oper.wpIn
  refine ⟨?_, ?_⟩
  · simp [Oper.about, hop, resolve, Target.leads, Sem.run_pure]
  · rw [Oper.semAt_plain F _ _ (by rw [hop]; intro c hc'; cases hc')]
    simp [execOp, hop, resolve, invoke, builtin, hs, hx, hrun, Result.andThen]
    exact hK v' w' r1 r2
end Go.Proofs.Ytdnajdobmlgmiaa

namespace Go.Proofs.Ytdnajdobmlgmiaa
open Go.RowKit Go.Shelf
set_option linter.unusedVariables false
attribute [local go_sem] Oper.semAt_some

theorem info5' : (Try.prog.info? 5).map (fun i => (i.zero, i.size, i.bytes)) = some (some (.int .u8 0), 1, 1) := by kernel_rfl
/-- Bits as numbers. -/
def qL (pre : List Bit) : List Int := pre.map (·.1)
theorem qL_length (pre : List Bit) : (qL pre).length = pre.length := by simp [qL]
theorem qL_bit (pre : List Bit) : ∀ b ∈ qL pre, b = 0 ∨ b = 1 := by
  intro b hb
  obtain ⟨q, _, rfl⟩ := List.mem_map.1 hb
  exact q.2
theorem qL_snoc (pre : List Bit) (x : Bit) : qL (pre ++ [x]) = qL pre ++ [x.1] := by simp [qL]
/-- What is full of bits, in bytes; what is left: its number, and how many bits. -/
def fullL (l : List Int) : List Int := chunkN l (l.length / 8)
def leftL (l : List Int) : List Int := l.drop (8 * (l.length / 8))
theorem leftL_length (l : List Int) : (leftL l).length = l.length % 8 := by unfold leftL; rw [List.length_drop]; omega
theorem chunkN_snoc (l : List Int) (x : Int) (m : Nat) (h : 8 * m ≤ l.length) : chunkN (l ++ [x]) m = chunkN l m := by
  apply chunkN_congr
  rw [List.take_append_of_le_length h]
theorem full_on {l : List Int} {x : Int} (h : l.length % 8 < 7) : fullL (l ++ [x]) = fullL l ∧ leftL (l ++ [x]) = leftL l ++ [x] := by
  have e : (l ++ [x]).length / 8 = l.length / 8 := by rw [List.length_append, List.length_singleton]; omega
  unfold fullL leftL
  rw [e]
  exact ⟨chunkN_snoc _ _ _ (by omega), by rw [List.drop_append_of_le_length (by omega)]⟩
theorem full_full {l : List Int} {x : Int} (h : l.length % 8 = 7) : fullL (l ++ [x]) = fullL l ++ [numB (leftL l ++ [x])] ∧ leftL (l ++ [x]) = [] := by
  have e : (l ++ [x]).length / 8 = l.length / 8 + 1 := by rw [List.length_append, List.length_singleton]; omega
  unfold fullL leftL
  rw [e]
  refine ⟨?_, List.drop_eq_nil_of_le (by rw [List.length_append, List.length_singleton]; omega)⟩
  rw [chunkN, chunkN_snoc _ _ _ (by omega), List.drop_append_of_le_length (by omega), List.take_of_length_le (by rw [List.length_append, List.length_drop, List.length_singleton]; omega)]
theorem left_bd (l : List Int) (h : ∀ b ∈ l, b = 0 ∨ b = 1) : 0 ≤ numB (leftL l) ∧ numB (leftL l) < 128 := by
  have h1 := numB_bd (leftL l) (fun b hb => h b (List.mem_of_mem_drop hb))
  have h2 : (leftL l).length ≤ 7 := by rw [leftL_length]; omega
  have h3 : (2 : Int) ^ (leftL l).length ≤ 128 := by
    generalize (leftL l).length = q at h2
    rcases (by omega : q = 0 ∨ q = 1 ∨ q = 2 ∨ q = 3 ∨ q = 4 ∨ q = 5 ∨ q = 6 ∨ q = 7) with rfl | rfl | rfl | rfl | rfl | rfl | rfl | rfl <;> decide
  omega
theorem fullL_length (l : List Int) : (fullL l).length = l.length / 8 := chunkN_length _ _
theorem codes_bd (l : List Int) (h : ∀ c ∈ l, 0 ≤ sgn c) : ∀ c ∈ l.map codeOf, 0 ≤ c.1 ∧ c.1 ≤ 255 ∧ 0 ≤ c.2 ∧ c.2 ≤ 8 := by
  intro c hc
  obtain ⟨x, hx, rfl⟩ := List.mem_map.1 hc
  have h1 := h x hx
  have h2 := sgn_lt x
  unfold codeOf
  split
  · exact ⟨h1, by omega, by omega, by omega⟩
  · exact ⟨by omega, by omega, by omega, by omega⟩
theorem qL_codes (l : List Int) : qL (codesQ (l.map codeOf)) = packB l := by
  induction l with
  | nil => rfl
  | cons c t ih =>
    have e : qL (codesQ ((c :: t).map codeOf)) = (bitsQ (codeOf c).2.toNat (codeOf c).1).map (·.1) ++ qL (codesQ (t.map codeOf)) := by simp [qL, codesQ]
    rw [e, ih, bitsQ_map, packB_cons]
    congr 1
    unfold codeOf sgnBits
    split <;> rfl
theorem sumB_codes (l : List Int) : sumB (l.map codeOf) = ((packB l).length : Int) := by
  induction l with
  | nil => rfl
  | cons c t ih =>
    rw [List.map_cons, sumB, ih, packB_cons, List.length_append]
    have : (codeOf c).2 = ((sgnBits (sgn c)).length : Int) := by
      unfold codeOf sgnBits
      split <;> rw [bitsL_length] <;> rfl
    rw [this]; omega
theorem ones_bits (f : Nat) (h : f ≤ 7) : bitsL f (pw f - 1) = List.replicate f 1 := by
  rcases (by omega : f = 0 ∨ f = 1 ∨ f = 2 ∨ f = 3 ∨ f = 4 ∨ f = 5 ∨ f = 6 ∨ f = 7) with rfl | rfl | rfl | rfl | rfl | rfl | rfl | rfl <;> decide
/-- All codes of a word: its signs', and what fills. -/
def allC (l : List Int) : List (Int × Int) := l.map codeOf ++ [(pw ((8 - sumB (l.map codeOf) % 8) % 8) - 1, (8 - sumB (l.map codeOf) % 8) % 8)]
theorem allC_bits (l : List Int) : qL (codesQ (allC l)) = padB (packB l) := by
  have e : qL (codesQ (allC l)) = qL (codesQ (l.map codeOf)) ++ (bitsQ ((8 - sumB (l.map codeOf) % 8) % 8).toNat (pw ((8 - sumB (l.map codeOf) % 8) % 8) - 1)).map (·.1) := by
    unfold allC; rw [codesQ_snoc]; simp [qL]
  rw [e, qL_codes, bitsQ_map, sumB_codes]
  unfold padB
  congr 1
  have h2 : ((8 - ((packB l).length : Int) % 8) % 8) = (((8 - (packB l).length % 8) % 8 : Nat) : Int) := by omega
  rw [h2, Int.toNat_natCast, ones_bits _ (by omega)]
theorem allC_bd (l : List Int) (h : ∀ c ∈ l, 0 ≤ sgn c) : ∀ c ∈ allC l, 0 ≤ c.1 ∧ c.1 ≤ 255 ∧ 0 ≤ c.2 ∧ c.2 ≤ 8 := by
  intro c hc
  rcases List.mem_append.1 hc with hc | hc
  · exact codes_bd l h c hc
  · simp only [List.mem_singleton] at hc
    subst hc
    rw [sumB_codes]
    have h2 : ((8 - ((packB l).length : Int) % 8) % 8) = (((8 - (packB l).length % 8) % 8 : Nat) : Int) := by omega
    rw [h2]
    generalize hf : (8 - (packB l).length % 8) % 8 = f
    have : f ≤ 7 := by omega
    rcases (by omega : f = 0 ∨ f = 1 ∨ f = 2 ∨ f = 3 ∨ f = 4 ∨ f = 5 ∨ f = 6 ∨ f = 7) with rfl | rfl | rfl | rfl | rfl | rfl | rfl | rfl <;> decide
theorem fullL_pad (l : List Int) : fullL (padB (packB l)) = packL l := rfl
end Go.Proofs.Ytdnajdobmlgmiaa

namespace Go.Proofs.Ytdnajdobmlgmiaa
open Go.RowKit
set_option linter.unusedVariables false

theorem stepU_short {l : List Int} (h : l.length < 5) : stepU l = none := by unfold stepU; rw [if_pos h]
theorem stepU_low {l : List Int} (h : 5 ≤ l.length) (hs : stepU l = none) : 24 ≤ numB (l.take 5) := by
  unfold stepU at hs
  rw [if_neg (by omega)] at hs
  by_cases h24 : numB (l.take 5) < 24
  · rw [if_pos h24] at hs; simp at hs
  · omega
theorem stepU_on {l : List Int} (h : l.length < 7) (h5 : 5 ≤ l.length → 24 ≤ numB (l.take 5)) : stepU l = none := by
  unfold stepU
  by_cases hl : l.length < 5
  · rw [if_pos hl]
  · rw [if_neg hl, if_neg (by have := h5 (by omega); omega), if_pos h]
theorem take_snoc5 {h : List Int} {x : Int} (hl : 5 ≤ h.length) : (h ++ [x]).take 5 = h.take 5 := List.take_append_of_le_length hl
theorem numB_app (a b : List Int) : numB (a ++ b) = numB a * 2 ^ b.length + numB b := by
  revert a
  refine rev_ind (P := fun b => ∀ a, numB (a ++ b) = numB a * 2 ^ b.length + numB b) ?_ ?_ b
  · intro a; simp [numB]
  · intro l c ih a
    rw [← List.append_assoc, numB_snoc, ih a, numB_snoc, List.length_append, List.length_singleton, Int.pow_succ]
    have : numB a * (2 ^ l.length * 2) = 2 * (numB a * 2 ^ l.length) := by rw [← Int.mul_assoc, Int.mul_comm]
    omega

theorem dec_five (L : List Int) (x : Int) (hL : ∀ b ∈ L, b = 0 ∨ b = 1) (hx : x = 0 ∨ x = 1) (h : (unp L).2.length + 1 = 5) (hM : numB ((unp L).2 ++ [x]) < 24) :
    unp (L ++ [x]) = ((unp L).1 ++ [WS.getD (numB ((unp L).2 ++ [x])).toNat 0], []) := by
  obtain ⟨h1, h2, h3⟩ := unp_back L hL
  have hlen : ((unp L).2 ++ [x]).length = 5 := by rw [List.length_append, List.length_singleton]; exact h
  have hbit : ∀ b ∈ (unp L).2 ++ [x], b = 0 ∨ b = 1 := by
    intro b hb
    rcases List.mem_append.1 hb with hb | hb
    · exact hL b (by rw [h2]; exact List.mem_append_right _ hb)
    · simp at hb; subst hb; exact hx
  have hst : stepU ((unp L).2 ++ [x]) = some (numB ((unp L).2 ++ [x]), 5) := by
    unfold stepU
    rw [if_neg (by omega), List.take_of_length_le (by omega), if_pos hM]
  obtain ⟨k0, k1, k2, k3, k4⟩ := stepU_back hbit hst
  rw [List.take_of_length_le (by omega)] at k2
  have hk : ((numB ((unp L).2 ++ [x])).toNat : Int) = numB ((unp L).2 ++ [x]) := Int.toNat_of_nonneg k0
  have hs := sgn_at (k := (numB ((unp L).2 ++ [x])).toNat) (by omega)
  rw [hk] at hs
  have e : L ++ [x] = packB ((unp L).1 ++ [WS.getD (numB ((unp L).2 ++ [x])).toNat 0]) ++ [] := by
    rw [packB_snoc, hs, ← k2, List.append_nil, ← List.append_assoc, ← h2]
  have := unp_pack ((unp L).1 ++ [WS.getD (numB ((unp L).2 ++ [x])).toNat 0]) (by
    intro c hc
    rcases List.mem_append.1 hc with hc | hc
    · exact h1 c hc
    · simp only [List.mem_singleton] at hc; subst hc; rw [hs]; exact k0) [] (stepU_short (by simp))
  rw [← e] at this
  exact this
theorem dec_on (L : List Int) (x : Int) (hL : ∀ b ∈ L, b = 0 ∨ b = 1) (hx : x = 0 ∨ x = 1) (h : (unp L).2.length + 1 ≤ 6) (hM : (unp L).2.length + 1 = 5 → 24 ≤ numB ((unp L).2 ++ [x])) :
    unp (L ++ [x]) = ((unp L).1, (unp L).2 ++ [x]) := by
  obtain ⟨h1, h2, h3⟩ := unp_back L hL
  have e : L ++ [x] = packB (unp L).1 ++ ((unp L).2 ++ [x]) := by rw [← List.append_assoc, ← h2]
  have := unp_pack (unp L).1 h1 ((unp L).2 ++ [x]) (stepU_on (by rw [List.length_append, List.length_singleton]; omega) (fun h5 => by
    rw [List.length_append, List.length_singleton] at h5
    by_cases h4 : 5 ≤ (unp L).2.length
    · rw [take_snoc5 h4]; exact stepU_low h4 h3
    · rw [List.take_of_length_le (by rw [List.length_append, List.length_singleton]; omega)]; exact hM (by omega)))
  rw [← e] at this
  exact this
theorem dec_seven (L : List Int) (x : Int) (hL : ∀ b ∈ L, b = 0 ∨ b = 1) (hx : x = 0 ∨ x = 1) (h : (unp L).2.length + 1 = 7) :
    0 ≤ numB ((unp L).2 ++ [x]) - 96 + 24 ∧
    (numB ((unp L).2 ++ [x]) - 96 + 24 < 39 → unp (L ++ [x]) = ((unp L).1 ++ [WS.getD (numB ((unp L).2 ++ [x]) - 96 + 24).toNat 0], [])) ∧
    (39 ≤ numB ((unp L).2 ++ [x]) - 96 + 24 → ∀ t, (unp (L ++ [x] ++ t)).1 = (unp L).1) := by
  obtain ⟨h1, h2, h3⟩ := unp_back L hL
  have hlen : ((unp L).2 ++ [x]).length = 7 := by rw [List.length_append, List.length_singleton]; exact h
  have hbit : ∀ b ∈ (unp L).2 ++ [x], b = 0 ∨ b = 1 := by
    intro b hb
    rcases List.mem_append.1 hb with hb | hb
    · exact hL b (by rw [h2]; exact List.mem_append_right _ hb)
    · simp at hb; subst hb; exact hx
  have h24 : 24 ≤ numB (((unp L).2 ++ [x]).take 5) := by rw [take_snoc5 (by omega)]; exact stepU_low (by omega) h3
  have hsplit : numB ((unp L).2 ++ [x]) = numB (((unp L).2 ++ [x]).take 5) * 2 ^ (((unp L).2 ++ [x]).drop 5).length + numB (((unp L).2 ++ [x]).drop 5) := by
    rw [← numB_app, List.take_append_drop]
  have hd : (((unp L).2 ++ [x]).drop 5).length = 2 := by rw [List.length_drop, hlen]
  have hd0 := (numB_bd (((unp L).2 ++ [x]).drop 5) (fun b hb => hbit b (List.mem_of_mem_drop hb))).1
  rw [hd] at hsplit
  have h96 : 96 ≤ numB ((unp L).2 ++ [x]) := by rw [hsplit]; omega
  refine ⟨by omega, ?_, ?_⟩
  · intro hlt
    have hst : stepU ((unp L).2 ++ [x]) = some (numB ((unp L).2 ++ [x]) - 96 + 24, 7) := by
      unfold stepU
      rw [if_neg (by omega), if_neg (by omega), if_neg (by omega), List.take_of_length_le (i := 7) (by omega), if_neg (by omega)]
    obtain ⟨k0, k1, k2, k3, k4⟩ := stepU_back hbit hst
    rw [List.take_of_length_le (by omega)] at k2
    have hk : ((numB ((unp L).2 ++ [x]) - 96 + 24).toNat : Int) = numB ((unp L).2 ++ [x]) - 96 + 24 := Int.toNat_of_nonneg k0
    have hs := sgn_at (k := (numB ((unp L).2 ++ [x]) - 96 + 24).toNat) (by omega)
    rw [hk] at hs
    have e : L ++ [x] = packB ((unp L).1 ++ [WS.getD (numB ((unp L).2 ++ [x]) - 96 + 24).toNat 0]) ++ [] := by
      rw [packB_snoc, hs, ← k2, List.append_nil, ← List.append_assoc, ← h2]
    have := unp_pack ((unp L).1 ++ [WS.getD (numB ((unp L).2 ++ [x]) - 96 + 24).toNat 0]) (by
      intro c hc
      rcases List.mem_append.1 hc with hc | hc
      · exact h1 c hc
      · simp only [List.mem_singleton] at hc; subst hc; rw [hs]; exact k0) [] (stepU_short (by simp))
    rw [← e] at this
    exact this
  · intro hge t
    have e : L ++ [x] ++ t = packB (unp L).1 ++ (((unp L).2 ++ [x]) ++ t) := by rw [← List.append_assoc, ← List.append_assoc, ← h2]
    have hst : stepU (((unp L).2 ++ [x]) ++ t) = none := by
      unfold stepU
      rw [if_neg (by rw [List.length_append]; omega), List.take_append_of_le_length (i := 5) (by omega), if_neg (by omega), if_neg (by rw [List.length_append]; omega), List.take_append_of_le_length (i := 7) (by omega), List.take_of_length_le (i := 7) (by omega), if_pos hge]
    have := unp_pack (unp L).1 h1 _ hst
    rw [← e] at this
    rw [this]
theorem unp_left_len (L : List Int) (hL : ∀ b ∈ L, b = 0 ∨ b = 1) : (packB (unp L).1).length + (unp L).2.length = L.length := by
  have := (unp_back L hL).2.1
  rw [← List.length_append, ← this]
theorem packB_len_ge (l : List Int) : 5 * l.length ≤ (packB l).length := by
  induction l with
  | nil => simp
  | cons c t ih =>
    rw [packB_cons, List.length_append, List.length_cons]
    have : 5 ≤ (sgnBits (sgn c)).length := by unfold sgnBits; split <;> rw [bitsL_length] <;> omega
    omega
end Go.Proofs.Ytdnajdobmlgmiaa
