import Derived.Test.YtadidkkpokpocabImpB
import Derived.Laws.AppendOwn
namespace Go.Proofs.Ytadidkkpokpocab
open Go.RowKit
set_option linter.unusedVariables false

theorem infoC : (Try.prog.info? 55).map (fun i => (i.zero, i.size, i.bytes)) = some (some (.agg #[.int .i64 0, .int .i64 0]), 2, 16) := by kernel_rfl
/-- Codes, in memory. -/
def cellsC (cs : List (Int × Int)) : List Value := cs.flatMap fun c => [Value.int .i64 c.1, Value.int .i64 c.2]
theorem cellsC_snoc (cs : List (Int × Int)) (a b : Int) : cellsC (cs ++ [(a, b)]) = cellsC cs ++ [Value.int .i64 a, Value.int .i64 b] := by simp [cellsC]
theorem cellsC_cons (c : Int × Int) (cs : List (Int × Int)) : cellsC (c :: cs) = Value.int .i64 c.1 :: Value.int .i64 c.2 :: cellsC cs := by simp [cellsC]
theorem cellsC_length (cs : List (Int × Int)) : (cellsC cs).length = 2 * cs.length := by
  induction cs with
  | nil => rfl
  | cons c t ih => rw [cellsC_cons, List.length_cons, List.length_cons, ih, List.length_cons]; omega
theorem cellsC_at (cs : List (Int × Int)) (k : Nat) (h : k < cs.length) : (cellsC cs)[2 * k]? = some (.int .i64 cs[k].1) ∧ (cellsC cs)[2 * k + 1]? = some (.int .i64 cs[k].2) := by
  induction cs generalizing k with
  | nil => simp at h
  | cons c t ih =>
    cases k with
    | zero => simp [cellsC_cons]
    | succ k =>
      have := ih k (by simpa using h)
      rw [cellsC_cons, show 2 * (k + 1) = 2 * k + 1 + 1 by omega]
      simpa using this
/-- The code of a sign. -/
def codeOf (c : Int) : Int × Int := if sgn c < 24 then (sgn c, 5) else (96 + sgn c - 24, 7)
theorem not_row {W : World} {B : Nat} {t e : TypeId} {C : Array Value} {fr : Nat × Nat} (h : W.heap[B]? = some (.cells C t fr)) (hte : t ≠ e) {base size k : Nat} {v : Value} {xs : List Value} (hr : W.ownsRow base e size v k xs) : some B ≠ v.ownBlock := by
  rcases hr.2 with ⟨rfl, _⟩ | ⟨g, cap, cur, rfl, _, hgb, _⟩
  · simp [Value.ownBlock]
  · intro e'
    obtain rfl : B = g := by simpa [Value.ownBlock] using e'
    have := h.symm.trans hgb
    simp at this
    exact hte this.2.1
theorem blk_lt {W : World} {B : Nat} {o : Obj} (h : W.heap[B]? = some o) : B < W.heap.size := (Array.getElem?_eq_some_iff.1 h).1
theorem blk_alloc {W : World} {B : Nat} {o : Obj} (h : W.heap[B]? = some o) (o' : Obj) : (W.alloc o').heap[B]? = some o := by
  have := blk_lt h
  show (W.heap.push o')[B]? = _
  rw [Array.getElem?_push, if_neg (by omega)]
  exact h
theorem kept_app {W w3 : World} {tmp : Obj} {B : Nat} {t e : TypeId} {C : Array Value} {fr : Nat × Nat} (h : W.heap[B]? = some (.cells C t fr)) (hte : t ≠ e) {base size k : Nat} {v : Value} {xs : List Value} (hr : W.ownsRow base e size v k xs) (hgrow : (W.alloc tmp).grownBy w3 v.ownBlock) : w3.heap[B]? = some (.cells C t fr) :=
  (hgrow.block B (blk_lt (blk_alloc h tmp)) (not_row h hte hr)).trans (blk_alloc h tmp)
theorem own_zero2 (w : World) (e : TypeId) : (w.alloc (.cells #[] e)).ownsRow w.heap.size e 2 (.slice (some ⟨w.heap.size, 0, none⟩) 0 0) 0 [] :=
  ⟨rfl, .inr ⟨w.heap.size, 0, #[], rfl, Nat.le_refl _, by show (w.heap.push _)[w.heap.size]? = _; simp, Nat.le_refl _, by decide, rfl, rfl⟩⟩
theorem own_base {w : World} {b b' : Nat} {e : TypeId} {size : Nat} {v : Value} {n : Nat} {xs : List Value} (h : w.ownsRow b e size v n xs) (hb : b' ≤ b) : w.ownsRow b' e size v n xs := by
  refine ⟨h.1, ?_⟩
  rcases h.2 with h0 | ⟨g, cap, cur, h1, h2, h3⟩
  · exact .inl h0
  · exact .inr ⟨g, cap, cur, h1, Nat.le_trans hb h2, h3⟩
theorem own_below' {w w' : World} {base : Nat} {e : TypeId} {size : Nat} {v : Value} {n : Nat} {xs : List Value} (h : w.ownsRow base e size v n xs) (hb : Below w.heap.size w w') : w'.ownsRow base e size v n xs := by
  refine ⟨h.1, ?_⟩
  rcases h.2 with h0 | ⟨g, cap, cur, h1, h2, h3, h4⟩
  · exact .inl h0
  · exact .inr ⟨g, cap, cur, h1, h2, by rw [hb.block g (blk_lt h3)]; exact h3, h4⟩
theorem cell_two (w : World) (x y : Value) (e : TypeId) : ∀ j u, [x, y][j]? = some u → (w.alloc (.cells #[x, y] e)).cell? ((⟨w.heap.size, 0, none⟩ : Addr).add j) = some u := by
  intro j u hj
  rw [Addr.add_lit]
  match j, hj with
  | 0, hj => simp at hj; subst hj; simp
  | 1, hj => simp at hj; subst hj; simp
theorem two_cell (a b : Int) : ∀ u ∈ [Value.int .i64 a, Value.int .i64 b], u.oneCell' = true := by
  intro u hu; simp at hu; rcases hu with rfl | rfl <;> rfl

theorem two_all (a b : Int) : (#[.int .i64 a, .int .i64 b] : Array Value).all (·.oneCell') = true := by simp [Value.oneCell']

set_option maxHeartbeats 1000000 in
theorem wordCodes_any (s : ByteArray) (w : World) (hz : s.size ≤ 16) (hok : ∀ c ∈ bytesL s, 0 ≤ sgn c) :
    Calls Try.prog 37 #[.string s] w fun e w' => ∃ v, e = .returned v ∧ w'.ownsRow w.heap.size 55 2 v s.size (cellsC ((bytesL s).map codeOf)) ∧ Below w.heap.size w w' := by
  obtain ⟨ii, hi, hz0, hz1, hz2⟩ := info_parts infoC
  have HOK : Hid (∀ c ∈ bytesL s, 0 ≤ sgn c) := hok
  clear hok
  go_enter Try.func37, Try.ntmps37
  go_wp2_with (first | (go_at_call 34; refine (signArray_any _).mono ?_; rintro e w1 ⟨rfl, hb1⟩; obtain ⟨cap, C2, fr2, w2, hcv, hb2, hz2', hblk2, hC2⟩ := conv_any ((w1.alloc (.cells WSv 48)).alloc (.cells #[] 55)) s; have HC2 : Hid (∀ j, j < s.size → C2[j]? = some (.int .u8 ((bytesL s).getD j 0))) := hC2; have HBK : Hid (w2.heap[((w1.alloc (.cells WSv 48)).alloc (.cells #[] 55)).heap.size]? = some (.cells C2 5 fr2)) := hblk2;  clear hC2 hblk2; have HB2 : Hid (Below ((w1.alloc (.cells WSv 48)).alloc (.cells #[] 55)).heap.size ((w1.alloc (.cells WSv 48)).alloc (.cells #[] 55)) w2) := hb2; clear hb2) | (refine wpList_store_row rfl 48 _ _ rfl w1.heap.size WSv rfl rfl 48 _ (heap_alloc_last _ _) info49 rfl WSv_one ?_; rw [World.setRow_alloc_new]))
  have hbw : Below w.heap.size w w2 := ((hb1.alloc hb1.size _).alloc (by have := hb1.size; simp; omega) _).trans (HB2.out.mono (by have := hb1.size; simp; omega))
  have h1 : Hid (w2.heap[w1.heap.size]? = some (.cells WSv 48 (0, 0))) := by
    show w2.heap[w1.heap.size]? = some (.cells WSv 48 (0, 0))
    rw [HB2.out.block w1.heap.size (by simp; omega)]; exact heap_first _ _ _
  have h2 : Hid (w2.heap[w1.heap.size + 1 + 1]? = some (.cells C2 5 fr2)) := by
    have h := HBK.out
    simp only [World.size_alloc] at h
    exact h
  have h3 : Hid (w2.ownsRow w.heap.size 55 2 (.slice (some ⟨w1.heap.size + 1, 0, none⟩) 0 0) 0 []) := by
    have h := own_below' (own_zero2 (w1.alloc (.cells WSv 48)) 55) HB2.out
    have h := own_base h (b' := w.heap.size) (by have := hb1.size; simp; omega)
    simp only [World.size_alloc] at h
    exact h
  clear hcv hz2' HB2 HBK
  obtain ⟨G, hG⟩ : ∃ G, w1.heap.size = G := ⟨_, rfl⟩
  rw [hG] at h1 h2 h3 ⊢
  clear hG
  go_loopw [4, 13] (fun v i wr => ∃ k : Nat, k ≤ s.size ∧ i = .int .i64 k ∧ wr.ownsRow w.heap.size 55 2 v k (cellsC (((bytesL s).take k).map codeOf)) ∧ wr.heap[G]? = some (.cells WSv 48 (0, 0)) ∧ wr.heap[G + 1 + 1]? = some (.cells C2 5 fr2) ∧ Below w.heap.size w wr) (fun _ i _ => s.size - (intOf i).toNat)
  case atStart => exact ⟨0, by omega, rfl, h3.out, h1.out, h2.out, hbw⟩
  case round =>
    clear h1 h2 h3 hbw
    obtain ⟨k, hk, rfl, hown, hg1, hg2, hbel⟩ := hrel
    have HG1 : Hid (wr.heap[G]? = some (.cells WSv 48 (0, 0))) := hg1
    have HG2 : Hid (wr.heap[G + 1 + 1]? = some (.cells C2 5 fr2)) := hg2
    clear hg1 hg2
    by_cases hlt : k < s.size
    · have hlt' : (k : Int) < s.size := by omega
      have hkl : k < (bytesL s).length := by rw [bytesL_length]; exact hlt
      obtain ⟨x, hx⟩ : ∃ x, (bytesL s).getD k 0 = x := ⟨_, rfl⟩
      have hx' : (bytesL s)[k] = x := by rw [← hx]; simp [List.getD, hkl]
      have hmem : x ∈ bytesL s := by rw [← hx']; exact List.getElem_mem hkl
      obtain ⟨x0, x1⟩ := bytesL_bd s x hmem
      have g1 := HOK.out x hmem
      have g2 := sgn_lt x
      have hq : wr.cell? ⟨G + 1 + 1, k, none⟩ = some (.int .u8 x) := by
        rw [cell_of_row _ _ k _ _ _ HG2.out, HC2.out k hlt, hx]
      have HS : Hid (((bytesL s).take (k + 1)).map codeOf = ((bytesL s).take k).map codeOf ++ [codeOf x]) := by
        show ((bytesL s).take (k + 1)).map codeOf = ((bytesL s).take k).map codeOf ++ [codeOf x]
        rw [List.take_succ_eq_append_getElem hkl, hx']; simp
      clear hx hx' hmem hkl
      have hix := index_any G x wr x0 x1 (signs_cell _ _ _ HG1.out)
      by_cases h24 : sgn x < 24
      · skip
        go_wp2_with (first | (go_at_call 47; refine hix.mono ?_; clear hix; rintro e wq ⟨rfl, rfl⟩) | (at_builtin; refine wpList_append_own _ rfl _ _ 52 rfl w.heap.size 55 ii (.agg #[.int .i64 0, .int .i64 0]) 2 16 Try.underlying52 hi hz0 hz1 hz2 rfl (by decide) _ _ _ rfl (hown.alloc _) ⟨wq.heap.size, 0, none⟩ 1 1 [.int .i64 (sgn x), .int .i64 5] rfl rfl (cell_two _ _ _ _) (two_cell _ _) (by unfold maxLen; omega) (by omega) (by have := hbel.size; simp; omega) ?_; intro v' w3 hown' hgrow _))
        go_roundw
        case rel =>
          refine ⟨k + 1, by omega, by go_num, ?_, ?_, ?_, ?_⟩
          · rw [HS.out, show codeOf x = (sgn x, 5) by unfold codeOf; rw [if_pos (by omega)], cellsC_snoc]; exact hown'
          · exact kept_app HG1.out (by decide) hown hgrow
          · exact kept_app HG2.out (by decide) hown hgrow
          · exact Below.grown (Below.alloc hbel hbel.size _) hgrow (by have := hbel.size; simp; omega) (fun q hq => (hown.lt q hq).1)
        case measure => simp [intOf]; omega
      · skip
        go_wp2_with (first | (go_at_call 47; refine hix.mono ?_; clear hix; rintro e wq ⟨rfl, rfl⟩) | (at_builtin; refine wpList_append_own _ rfl _ _ 52 rfl w.heap.size 55 ii (.agg #[.int .i64 0, .int .i64 0]) 2 16 Try.underlying52 hi hz0 hz1 hz2 rfl (by decide) _ _ _ rfl (hown.alloc _) ⟨wq.heap.size, 0, none⟩ 1 1 [.int .i64 (96 + sgn x - 24), .int .i64 7] rfl rfl (cell_two _ _ _ _) (two_cell _ _) (by unfold maxLen; omega) (by omega) (by have := hbel.size; simp; omega) ?_; intro v' w3 hown' hgrow _))
        go_roundw
        case rel =>
          refine ⟨k + 1, by omega, by go_num, ?_, ?_, ?_, ?_⟩
          · rw [HS.out, show codeOf x = (96 + sgn x - 24, 7) by unfold codeOf; rw [if_neg (by omega)], cellsC_snoc]; exact hown'
          · exact kept_app HG1.out (by decide) hown hgrow
          · exact kept_app HG2.out (by decide) hown hgrow
          · exact Below.grown (Below.alloc hbel hbel.size _) hgrow (by have := hbel.size; simp; omega) (fun q hq => (hown.lt q hq).1)
        case measure => simp [intOf]; omega
    · have hks : k = s.size := by omega
      have hall : (bytesL s).take k = bytesL s := List.take_of_length_le (by rw [bytesL_length]; omega)
      rw [hall, hks] at hown
      clear hall
      go_wp2
      go_ret
      exact ⟨_, rfl, hown, hbel⟩


end Go.Proofs.Ytadidkkpokpocab
