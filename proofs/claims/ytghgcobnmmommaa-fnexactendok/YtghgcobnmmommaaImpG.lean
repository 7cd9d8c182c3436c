import Derived.RangeFuncNested
import Derived.RangeFuncBound
import Derived.RangeFuncCalls
import Derived.RangeFuncLeaves
import Derived.RangeFuncBox
import Derived.Shelf.Abstract
import Derived.Shelf.RegionOpen
import Derived.WalkKit
import Derived.OwnWalkIn
import Derived.TacticsInMore
import Derived.LoopNIn
import Derived.LoopIn
import Derived.Maps.AppendAt
import Derived.Test.YtghgcobnmmommaaBG
namespace Go.Proofs.Ytghgcobnmmommaa
open Go.RowKit Go.Shelf
set_option linter.unusedVariables false
attribute [local go_sem] Oper.semAt_some

/-- A bit. -/
abbrev Bit := { x : Int // x = 0 ∨ x = 1 }
/-- The bits of a number, the highest first. -/
def bitsQ : Nat → Int → List Bit
  | 0, _ => []
  | m + 1, n => bitsQ m (n / 2) ++ [⟨n % 2, by omega⟩]
theorem bitsQ_length (m : Nat) (n : Int) : (bitsQ m n).length = m := by
  induction m generalizing n with
  | zero => rfl
  | succ m ih => simp [bitsQ, ih]
theorem bitsQ_map (m : Nat) (n : Int) : (bitsQ m n).map (·.1) = bitsL m n := by
  induction m generalizing n with
  | zero => rfl
  | succ m ih => simp [bitsQ, bitsL, ih]
theorem bitsQ_at (m j : Nat) (n : Int) (h : j < m) : ((bitsQ m n)[j]'(by rw [bitsQ_length]; exact h)).1 = n / 2 ^ (m - 1 - j) % 2 := by
  induction m generalizing n j with
  | zero => omega
  | succ m ih =>
    simp only [bitsQ]
    by_cases hj : j < m
    · rw [List.getElem_append_left (by rw [bitsQ_length]; exact hj), ih j (n / 2) hj, Int.ediv_ediv_of_nonneg (by omega), show m + 1 - 1 - j = m - 1 - j + 1 by omega, Int.pow_succ, Int.mul_comm]
    · have : j = m := by omega
      subst this
      rw [List.getElem_append_right (by rw [bitsQ_length]; omega)]
      simp [bitsQ_length]
/-- The bits of codes. -/
def codesQ (cs : List (Int × Int)) : List Bit := cs.flatMap fun c => bitsQ c.2.toNat c.1
theorem codesQ_snoc (cs : List (Int × Int)) (c : Int × Int) : codesQ (cs ++ [c]) = codesQ cs ++ bitsQ c.2.toNat c.1 := by simp [codesQ]
theorem codesQ_part (cs : List (Int × Int)) (k : Nat) (h : k < cs.length) : codesQ cs = codesQ (cs.take k) ++ (bitsQ cs[k].2.toNat cs[k].1 ++ codesQ (cs.drop (k + 1))) := by
  have e : cs = cs.take k ++ (cs[k] :: cs.drop (k + 1)) := by rw [← List.drop_eq_getElem_cons h, List.take_append_drop]
  have e2 : codesQ cs = codesQ (cs.take k ++ (cs[k] :: cs.drop (k + 1))) := congrArg codesQ e
  rw [e2]
  unfold codesQ
  rw [List.flatMap_append, List.flatMap_cons]

/-- What a round keeps: all but two boxes, and rows of bytes. -/
structure KeepC (B1 B2 : Nat) (W W' : World) : Prop where
  size : W.heap.size ≤ W'.heap.size
  same : ∀ b cs t, W.heap[b]? = some (.cells cs t (0, 0)) → b ≠ B1 → b ≠ B2 → t ≠ 5 → W'.heap[b]? = some (.cells cs t (0, 0))
theorem KeepC.trans {B1 B2 : Nat} {A B C : World} (h : KeepC B1 B2 A B) (k : KeepC B1 B2 B C) : KeepC B1 B2 A C :=
  ⟨Nat.le_trans h.size k.size, fun b cs t hb h1 h2 h3 => k.same b cs t (h.same b cs t hb h1 h2 h3) h1 h2 h3⟩
theorem own_keepC {B1 B2 : Nat} {W W' : World} {base n : Nat} {v : Value} {xs : List Value} (h : W.ownsRow base 204 2 v n xs) (hk : KeepC B1 B2 W W') (h1 : some B1 ≠ v.ownBlock) (h2 : some B2 ≠ v.ownBlock) : W'.ownsRow base 204 2 v n xs := by
  refine ⟨h.1, ?_⟩
  rcases h.2 with h0 | ⟨g, cap, cur, rfl, hb, hg, h4⟩
  · exact .inl h0
  · refine .inr ⟨g, cap, cur, rfl, hb, hk.same g cur _ hg ?_ ?_ (by decide), h4⟩
    · intro e; subst e; exact h1 rfl
    · intro e; subst e; exact h2 rfl
theorem hid_mk {p : Prop} (h : p) : Hid p := h
theorem val_intG {k : IntKind} {a b : Int} (h : a = b) : Value.int k a = .int k b := by rw [h]
theorem and_one_all : ∀ n : Fin 256, ∀ b : Fin 8, bits .and .i64 ((n.val : Int) / 2 ^ b.val) 1 = (n.val : Int) / 2 ^ b.val % 2 := by decide +kernel

theorem and_one (x : Int) (d : Nat) (h0 : 0 ≤ x) (h1 : x ≤ 255) (hd : d ≤ 7) : bits .and .i64 (x / 2 ^ d) 1 = x / 2 ^ d % 2 := by
  obtain ⟨n, rfl⟩ := Int.eq_ofNat_of_zero_le h0
  exact and_one_all ⟨n, by omega⟩ ⟨d, by omega⟩

set_option maxRecDepth 100000 in
set_option maxHeartbeats 1000000 in
theorem bits1_in (l Bn n cap B1 B2 base : Nat) (a : Option Addr) (cs : List (Int × Int)) (hbd : ∀ c ∈ cs, 0 ≤ c.1 ∧ c.1 ≤ 255 ∧ 0 ≤ c.2 ∧ c.2 ≤ 8) (hn : cs.length = n) (hn16 : n ≤ 17) (J Jx : List Bit → World → Prop) (W : World)
    (hJ : AbidesFrom W.heap.size J)
    (hY : ∀ pre x W, J pre W → pre.length < (codesQ cs).length → YieldAt Fence.wide 4 Try.prog l #[.int .i64 x.1] W fun e W' =>
      (e = .returned (.bool true) ∧ J (pre ++ [x]) W' ∧ KeepC B1 B2 W W') ∨ (e = .returned (.bool false) ∧ Jx (pre ++ [x]) W'))
    (hBn : W.heap[Bn]? = some (.cells #[.slice a n cap] 201 (0, 0))) (hB1 : B1 < W.heap.size) (hB2 : B2 < W.heap.size) (hg1 : some B1 ≠ (Value.slice a n cap).ownBlock) (hg2 : some B2 ≠ (Value.slice a n cap).ownBlock)
    (hrow : W.ownsRow base 204 2 (.slice a n cap) n (cellsC cs)) (h0 : J [] W) :
    CallsIn Fence.wide 5 Try.prog 164 #[.func (.yield l) #[] #[], .pointer (some ⟨Bn, 0, none⟩)] W fun e W' => (∃ v, e = .returned v) ∧
      ((∃ ys, ys = codesQ cs ∧ J ys W') ∨ (∃ pre, pre <+: codesQ cs ∧ Jx pre W')) := by
  have HJ : Hid (AbidesFrom W.heap.size J) := hJ
  have HY : Hid (∀ pre x W, J pre W → pre.length < (codesQ cs).length → YieldAt Fence.wide 4 Try.prog l #[.int .i64 x.1] W fun e W' =>
      (e = .returned (.bool true) ∧ J (pre ++ [x]) W' ∧ KeepC B1 B2 W W') ∨ (e = .returned (.bool false) ∧ Jx (pre ++ [x]) W')) := hY
  have HBD : Hid (∀ c ∈ cs, 0 ≤ c.1 ∧ c.1 ≤ 255 ∧ 0 ≤ c.2 ∧ c.2 ≤ 8) := hbd
  have HN : Hid (cs.length = n) := hn
  have HR : Hid (W.ownsRow base 204 2 (.slice a n cap) n (cellsC cs)) := hrow
  clear hJ hY hbd hn hrow
  have hcell : W.cell? ⟨Bn, 0, none⟩ = some (.slice a n cap) := cell_of_row W Bn 0 _ _ _ hBn
  refine callsIn_of_wp Try.func164 rfl trivial ?_ rfl
  simp only [Try.ntmps164, List.size_toArray, List.length_cons, List.length_nil, Nat.reduceAdd, Nat.reduceSub, Array.replicate_succ, Array.replicate_zero, List.push_toArray, List.append_toArray, List.nil_append, List.cons_append]
  gi_wp2
  gi_loopw [8] (fun i wr => ∃ k : Nat, k ≤ n ∧ i = .int .i64 k ∧ wr.ownsRow base 204 2 (.slice a n cap) n (cellsC cs) ∧ W.heap.size ≤ wr.heap.size ∧ J (codesQ (cs.take k)) wr) (fun i _ => n - (intOf i).toNat)
  case atStart => exact ⟨0, by omega, rfl, HR.out, Nat.le_refl _, h0⟩
  case round =>
    clear HR h0 hcell hBn
    obtain ⟨k, hk, rfl, hown, hsz, hJk⟩ := hrel
    have HO : Hid (wr.ownsRow base 204 2 (.slice a n cap) n (cellsC cs)) := hown
    have HJk : Hid (J (codesQ (cs.take k)) wr) := hJk
    clear hown hJk
    by_cases hlt : k < n
    · have hlt' : (k : Int) < n := by omega
      have hkl : k < cs.length := by rw [HN.out]; exact hlt
      obtain ⟨g, rfl⟩ : ∃ g, a = some ⟨g, 0, none⟩ := by
        rcases HO.out.2 with ⟨hv, h0⟩ | ⟨g, c', cur, hv, _⟩
        · omega
        · injection hv with h3; exact ⟨g, h3⟩
      obtain ⟨x, hx⟩ : ∃ x, cs[k].1 = x := ⟨_, rfl⟩
      obtain ⟨y, hy⟩ : ∃ y, cs[k].2 = y := ⟨_, rfl⟩
      have q1 : wr.cell? ⟨g, k * 2, none⟩ = some (.int .i64 x) := by
        have h := HO.out.cells (g := g) rfl (2 * k) _ (cellsC_at cs k hkl).1
        rw [Addr.add_lit, hx] at h
        simpa [Nat.mul_comm] using h
      have q2 : wr.cell? ⟨g, k * 2 + 1, none⟩ = some (.int .i64 y) := by
        have h := HO.out.cells (g := g) rfl (2 * k + 1) _ (cellsC_at cs k hkl).2
        rw [Addr.add_lit, hy] at h
        simpa [Nat.mul_comm] using h
      have xyb := HBD.out _ (List.getElem_mem hkl)
      rw [hx, hy] at xyb
      obtain ⟨x0, x1, y0, y1⟩ := xyb
      obtain ⟨m, rfl⟩ : ∃ m : Nat, y = m := ⟨y.toNat, by omega⟩
      have hpart := codesQ_part cs k hkl
      rw [hx, hy, Int.toNat_natCast] at hpart
      have HP : Hid (codesQ cs = codesQ (cs.take k) ++ (bitsQ m x ++ codesQ (cs.drop (k + 1)))) := hpart
      have HS : Hid (codesQ (cs.take (k + 1)) = codesQ (cs.take k) ++ bitsQ m x) := by
        show codesQ (cs.take (k + 1)) = codesQ (cs.take k) ++ bitsQ m x
        rw [List.take_succ_eq_append_getElem hkl, codesQ_snoc, hx, hy, Int.toNat_natCast]
      clear hpart hx hy hkl
      have HO2 : Hid ((wr.alloc (.cells #[.int .i64 x, .int .i64 (m : Int)] 204)).ownsRow base 204 2 (.slice (some ⟨g, 0, none⟩) n cap) n (cellsC cs)) := HO.out.alloc _
      have HJ2 : Hid (J (codesQ (cs.take k)) (wr.alloc (.cells #[.int .i64 x, .int .i64 (m : Int)] 204))) := HJ.out _ _ _ none HJk.out (World.grownBy_alloc _ _ none) (fun r e => by cases e)
      have HBc : Hid ((wr.alloc (.cells #[.int .i64 x, .int .i64 (m : Int)] 204)).heap[wr.heap.size]? = some (.cells #[.int .i64 x, .int .i64 (m : Int)] 204 (0, 0))) := heap_alloc_last _ _
      have hBc1 : wr.heap.size ≠ B1 := by omega
      have hBc2 : wr.heap.size ≠ B2 := by omega
      gi_wp2
      clear HO HJk q1 q2
      obtain ⟨Bc, hBc⟩ : ∃ Bc, wr.heap.size = Bc := ⟨_, rfl⟩
      rw [hBc] at HBc hBc1 hBc2 ⊢
      have hsz2 : W.heap.size ≤ (wr.alloc (.cells #[.int .i64 x, .int .i64 (m : Int)] 204)).heap.size := by simp; omega
      clear hBc hsz
      generalize (wr.alloc (.cells #[.int .i64 x, .int .i64 (m : Int)] 204)) = wq at HO2 HJ2 HBc hsz2 ⊢
      gi_loopw [5] (fun b wz => ∃ j : Nat, j ≤ m ∧ b = .int .i64 ((m : Int) - 1 - j) ∧ wz.ownsRow base 204 2 (.slice (some ⟨g, 0, none⟩) n cap) n (cellsC cs) ∧ W.heap.size ≤ wz.heap.size ∧ wz.heap[Bc]? = some (.cells #[.int .i64 x, .int .i64 (m : Int)] 204 (0, 0)) ∧ J (codesQ (cs.take k) ++ (bitsQ m x).take j) wz) (fun b _ => (intOf b + 1).toNat)
      case atStart => exact ⟨0, by omega, by go_num, HO2.out, hsz2, HBc.out, by simpa using HJ2.out⟩
      case round =>
        clear HO2 HJ2 HBc hsz2
        obtain ⟨j, hj, rfl, hown, hsz, hbc, hJj⟩ := hrel
        have hcx : wr.cell? ⟨Bc, 0, none⟩ = some (.int .i64 x) := cell_of_row wr Bc 0 _ _ _ hbc
        have HO : Hid (wr.ownsRow base 204 2 (.slice (some ⟨g, 0, none⟩) n cap) n (cellsC cs)) := hown
        have HJj : Hid (J (codesQ (cs.take k) ++ (bitsQ m x).take j) wr) := hJj
        have HBc : Hid (wr.heap[Bc]? = some (.cells #[.int .i64 x, .int .i64 (m : Int)] 204 (0, 0))) := hbc
        clear hown hJj hbc
        by_cases hjm : j < m
        · obtain ⟨d, hd⟩ : ∃ d : Nat, m - 1 - j = d := ⟨_, rfl⟩
          have hd7 : d ≤ 7 := by omega
          have hbel : (m : Int) - 1 - j = d := by omega
          have hjl : j < (bitsQ m x).length := by rw [bitsQ_length]; exact hjm
          have hbit := bitsQ_at m j x hjm
          rw [hd] at hbit
          have hlen : (codesQ (cs.take k) ++ (bitsQ m x).take j).length < (codesQ cs).length := by
            rw [HP.out]; simp only [List.length_append, List.length_take, bitsQ_length]; omega
          obtain ⟨q, hq⟩ : ∃ q : Bit, (bitsQ m x)[j] = q := ⟨_, rfl⟩
          rw [hq] at hbit
          have HT : Hid ((codesQ (cs.take k) ++ (bitsQ m x).take j) ++ [q] = codesQ (cs.take k) ++ (bitsQ m x).take (j + 1)) := by
            show (codesQ (cs.take k) ++ (bitsQ m x).take j) ++ [q] = codesQ (cs.take k) ++ (bitsQ m x).take (j + 1)
            rw [List.take_succ_eq_append_getElem hjl, hq, List.append_assoc]
          obtain ⟨fn, tmps, assign, body, hy, hR⟩ := HY.out _ q wr HJj.out hlen
          clear hq hjl hlen
          have HPX : Hid ((codesQ (cs.take k) ++ (bitsQ m x).take j) ++ [q] <+: codesQ cs) := by
            show (codesQ (cs.take k) ++ (bitsQ m x).take j) ++ [q] <+: codesQ cs
            rw [HT.out, HP.out]
            exact List.prefix_append_right_inj _ |>.2 ((List.take_prefix _ _).trans (List.prefix_append _ _))
          obtain ⟨v, hv⟩ := q
          have hbit' : v = x / 2 ^ d % 2 := hbit
          clear hbit hd
          dsimp only at hy
          have hand := and_one x d x0 x1 hd7
          rw [← hbit'] at hand
          clear hbit'
          rcases (by omega : (d = 0 ∧ (m : Int) - 1 - j = 0) ∨ (d = 1 ∧ (m : Int) - 1 - j = 1) ∨ (d = 2 ∧ (m : Int) - 1 - j = 2) ∨ (d = 3 ∧ (m : Int) - 1 - j = 3) ∨ (d = 4 ∧ (m : Int) - 1 - j = 4) ∨ (d = 5 ∧ (m : Int) - 1 - j = 5) ∨ (d = 6 ∧ (m : Int) - 1 - j = 6) ∨ (d = 7 ∧ (m : Int) - 1 - j = 7)) with ⟨rfl, hb⟩ | ⟨rfl, hb⟩ | ⟨rfl, hb⟩ | ⟨rfl, hb⟩ | ⟨rfl, hb⟩ | ⟨rfl, hb⟩ | ⟨rfl, hb⟩ | ⟨rfl, hb⟩
          all_goals
            simp only [Int.reducePow, Int.ediv_one] at hand
            rw [hb]
            have HBL := hid_mk hb
            clear hb hbel
            gi_wp2
            refine hR.mono ?_
            rintro e W3 (⟨rfl, hJ3, hk3⟩ | ⟨rfl, hJx3⟩)
            · gi_wp2
              go_roundw
              case rel => exact ⟨j + 1, by omega, val_intG (by have := HBL.out; omega), own_keepC HO.out hk3 hg1 hg2, Nat.le_trans hsz hk3.size, hk3.same _ _ _ HBc.out hBc1 hBc2 (by decide), by rw [← HT.out]; exact hJ3⟩
              case measure => simp [intOf]
            · gi_wp2
              refine bodyPost_ret (results_none rfl _ _ _) rfl ?_
              exact ⟨⟨_, rfl⟩, .inr ⟨_, HPX.out, hJx3⟩⟩
        · have hb : (m : Int) - 1 - j = -1 := by omega
          have hall : (bitsQ m x).take j = bitsQ m x := List.take_of_length_le (by rw [bitsQ_length]; omega)
          rw [hall, ← HS.out] at HJj
          rw [hb]
          clear hb hall
          gi_wp2
          go_roundw
          case rel => exact ⟨k + 1, by omega, by go_num, HO.out, hsz, HJj.out⟩
          case measure => simp [intOf]; omega
    · have hall : cs.take k = cs := List.take_of_length_le (by rw [HN.out]; omega)
      rw [hall] at HJk
      clear hall
      gi_wp2
      go_end0
      exact ⟨⟨_, rfl⟩, .inl ⟨_, rfl, HJk.out⟩⟩
end Go.Proofs.Ytghgcobnmmommaa
