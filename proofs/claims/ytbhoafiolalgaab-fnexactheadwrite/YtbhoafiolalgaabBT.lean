import Derived.Test.YtbhoafiolalgaabBS
import Derived.Deep.RegionHeld3
import Derived.Test.YtbhoafiolalgaabBF
namespace Go.Proofs.Ytbhoafiolalgaab
open Go.RowKit
set_option linter.unusedVariables false

/-- The figures of a number. -/
def digsF : Nat → Nat → List Int
  | 0, _ => []
  | n + 1, k => if k = 0 then [] else digsF n (k / 10) ++ [48 + ((k % 10 : Nat) : Int)]
theorem digsF_irr (n m k : Nat) (hn : k ≤ n) (hm : k ≤ m) : digsF n k = digsF m k := by
  induction n generalizing m k with
  | zero =>
    obtain rfl : k = 0 := by omega
    cases m with
    | zero => rfl
    | succ m => rw [digsF, digsF, if_pos rfl]
  | succ n ih =>
    cases m with
    | zero =>
      obtain rfl : k = 0 := by omega
      rw [digsF, digsF, if_pos rfl]
    | succ m =>
      rw [digsF, digsF]
      by_cases h : k = 0
      · rw [if_pos h, if_pos h]
      · rw [if_neg h, if_neg h, ih m (k / 10) (by omega) (by omega)]
def digs (k : Nat) : List Int := digsF k k
theorem digs_zero : digs 0 = [] := rfl
theorem digs_pos (k : Nat) (h : k ≠ 0) : digs k = digs (k / 10) ++ [48 + ((k % 10 : Nat) : Int)] := by
  obtain ⟨j, rfl⟩ : ∃ j, k = j + 1 := ⟨k - 1, by omega⟩
  show digsF (j + 1) (j + 1) = digsF ((j + 1) / 10) ((j + 1) / 10) ++ _
  rw [digsF, if_neg h, digsF_irr j ((j + 1) / 10) ((j + 1) / 10) (by omega) (Nat.le_refl _)]
/-- What markText says. -/
def mkT (k : Nat) : ByteArray := ⟨#[109]⟩ ++ strOfNums (digs k)
theorem strOfNums_cons (x : Int) (l : List Int) : strOfNums [x] ++ strOfNums l = strOfNums (x :: l) := by
  apply ByteArray.ext
  simp [strOfNums]
theorem strOfNums_nil : strOfNums [] = ⟨#[]⟩ := rfl

set_option maxRecDepth 100000 in
set_option maxHeartbeats 2000000 in
theorem markText_any (k : Nat) (w : World) (h0 : 1 ≤ k) (h1 : k ≤ 1000000000) :
    Calls Try.prog 51 #[.int .i64 k] w fun e w' => e = .returned (.string (mkT k)) ∧ Below w.heap.size w w' := by
  have hcv := fun n w => convert_one (P := Try.prog) Try.underlying22 Try.underlying5 Try.underlying9 n w
  have hk0 : ¬ (k : Int) ≤ 0 := by omega
  have hkp : (0 : Int) < k := by omega
  go_enter Try.func51, Try.ntmps51
  go_wp2
  go_loopw [0, 3] (fun i s wr => ∃ (j : Nat) (t : List Int), t.length + j ≤ k ∧ i = .int .i64 j ∧ s = .string (strOfNums t) ∧ digs k = digs j ++ t ∧ Below w.heap.size w wr) (fun i _ _ => (intOf i).toNat)
  case atStart => exact ⟨k, [], by simp, rfl, rfl, by simp, Below.refl _ _⟩
  case round =>
    obtain ⟨j, t, hj, rfl, rfl, hdg, hbel⟩ := hrel
    have HDG : Hid (digs k = digs j ++ t) := hdg
    clear hdg
    have hst : (strOfNums t).size ≤ 1000000000 := by rw [strOfNums_size]; omega
    have hs1 : ∀ x, (strOfNums [x]).size = 1 := fun _ => rfl
    have hs2 : (⟨#[109]⟩ : ByteArray).size = 1 := rfl
    by_cases hp : 0 < j
    · have hp' : (0 : Int) < j := by omega
      obtain ⟨d, hd⟩ : ∃ d : Nat, (j : Int) % 10 = d := ⟨j % 10, (Int.natCast_emod j 10).symm⟩
      obtain ⟨q, hq⟩ : ∃ q : Nat, (j : Int) / 10 = q := ⟨j / 10, (Int.natCast_ediv j 10).symm⟩
      have hd9 : (d : Int) ≤ 9 := by omega
      have hd0 : (0 : Int) ≤ d := by omega
      have hqj : q < j := by omega
      have HD : Hid (digs k = digs q ++ ((48 + (d : Int)) :: t)) := by
        show digs k = _
        rw [HDG.out, digs_pos j (by omega), show j / 10 = q by omega, show ((j % 10 : Nat) : Int) = (d : Int) by omega, List.append_assoc]
        rfl
      go_wp2
      go_roundw
      case rel => exact ⟨q, (48 + (d : Int)) :: t, by rw [List.length_cons]; omega, rfl, by rw [strOfNums_cons], HD.out, hbel.alloc hbel.size _⟩
      case measure => simp [intOf]; omega
    · obtain rfl : j = 0 := by omega
      have HM : Hid (mkT k = ⟨#[109]⟩ ++ strOfNums t) := by show mkT k = _; unfold mkT; rw [HDG.out, digs_zero]; rfl
      go_wp2
      go_ret
      exact ⟨by rw [HM.out]; rfl, hbel⟩
end Go.Proofs.Ytbhoafiolalgaab

namespace Go.Proofs.Ytbhoafiolalgaab
open Go.RowKit
set_option linter.unusedVariables false

/-- A field that is marked. -/
def mk1 (K : Nat) : Fd := ⟨mkT K, mkT (K + 1), ((K : Int) + 1 + 1) % 3 == 0⟩
def marks : Nat → Nat → List Fd
  | _, 0 => []
  | K, n + 1 => mk1 K :: marks (K + 3) n
theorem marks_length (K n : Nat) : (marks K n).length = n := by
  induction n generalizing K with
  | zero => rfl
  | succ n ih => rw [marks, List.length_cons, ih]
theorem marks_at (K n j : Nat) (h : j < (marks K n).length) : (marks K n)[j] = mk1 (K + 3 * j) := by
  induction n generalizing K j with
  | zero => simp [marks] at h
  | succ n ih =>
    cases j with
    | zero => rfl
    | succ j =>
      have hj : j < (marks (K + 3) n).length := by rw [marks_length] at h ⊢; omega
      have e := ih (K + 3) j hj
      show (marks (K + 3) n)[j] = _
      rw [e]
      congr 1
      omega
theorem atC_take {C : Array Value} {fs : List Fd} {n cap : Nat} (hC : C.size = cap * 3) (hn : n ≤ cap) (hl : fs.length = n) (h : ∀ j (hj : j < fs.length), atC C j fs[j]) : C.toList.take (n * 3) = cellsF fs := by
  apply List.ext_getElem?
  intro i
  rw [List.getElem?_take]
  by_cases hi : i < n * 3
  · rw [if_pos hi, Array.getElem?_toList]
    obtain ⟨j, r, hj, hr, rfl⟩ : ∃ j r, j < fs.length ∧ r < 3 ∧ i = j * 3 + r := ⟨i / 3, i % 3, by omega, by omega, by omega⟩
    have ha := h j hj
    have hc := cellsF_at fs j hj
    unfold atC at ha
    rcases (by omega : r = 0 ∨ r = 1 ∨ r = 2) with rfl | rfl | rfl
    · rw [Nat.add_zero, ha.1, hc.1]
    · rw [ha.2.1, hc.2.1]
    · rw [ha.2.2, hc.2.2]
  · rw [if_neg hi, List.getElem?_eq_none (by rw [cellsF_length, hl]; omega)]
theorem grown_setC {w w' : World} {g : Nat} (h : w.grownBy w' (some g)) (o : Nat) (v : Value) : w.grownBy (w'.setCell ⟨g, o, none⟩ v) (some g) :=
  ⟨h.os, h.tape, h.output, by rw [World.size_setCell]; exact h.size, fun i hi hne => (Below.heap_setCell w' ⟨g, o, none⟩ v i (fun e => hne (by rw [e]))).trans (h.block i hi hne)⟩
theorem grown_bel {w w' w'' : World} {row : Option Nat} (h : w.grownBy w' row) (hb : Below w'.heap.size w' w'') : w.grownBy w'' row :=
  ⟨hb.os.trans h.os, hb.tape.trans h.tape, hb.output.trans h.output, Nat.le_trans h.size hb.size, fun i hi hne => (hb.block i (Nat.lt_of_lt_of_le hi h.size)).trans (h.block i hi hne)⟩
theorem own_cases {w : World} {base n : Nat} {a : Option Addr} {cap : Nat} {xs : List Value} (h : w.ownsRow base 65 3 (.slice a n cap) n xs) : (a = none ∧ n = 0 ∧ cap = 0) ∨ ∃ g C, a = some ⟨g, 0, none⟩ ∧ base ≤ g ∧ w.heap[g]? = some (.cells C 65 (0, 0)) ∧ n ≤ cap ∧ cap ≤ maxLen ∧ C.size = cap * 3 := by
  obtain ⟨_, h⟩ := h
  rcases h with ⟨e, hn⟩ | ⟨g, c, C, e, h1, h2, h3, h4, h5, _⟩
  · injection e with e1 e2 e3
    exact .inl ⟨e1, hn, e3⟩
  · injection e with e1 e2 e3
    subst e1 e3
    exact .inr ⟨g, C, rfl, h1, h2, h3, h4, h5⟩

set_option maxRecDepth 100000 in
set_option maxHeartbeats 4000000 in
theorem markFieldS_any (xs : List Value) (base n cap k : Nat) (a : Option Addr) (w : World) (h : w.ownsRow base 65 3 (.slice a n cap) n xs) (hn : n ≤ 1048577) (k0 : 1 ≤ k) (k1 : k ≤ 10000000) :
    Calls Try.prog 25 #[.slice a n cap, .int .i64 k] w fun e w' => e = .returned (.int .i64 ((k + 3 * n : Nat) : Int)) ∧ w'.ownsRow base 65 3 (.slice a n cap) n (cellsF (marks k n)) ∧ w.grownBy w' (Value.slice a n cap).ownBlock := by
  rcases own_cases h with ⟨rfl, rfl, rfl⟩ | ⟨g, C, rfl, hg, hC, hnc, hcm, hCs⟩
  · go_enter Try.func25, Try.ntmps25
    go_wp2
    go_loopw [1, 5] (fun l i wr => l = .int .i64 k ∧ i = .int .i64 0 ∧ wr = w) (fun _ _ _ => 0)
    case atStart => exact ⟨rfl, rfl, rfl⟩
    case round =>
      obtain ⟨rfl, rfl, rfl⟩ := hrel
      go_wp2
      go_ret
      exact ⟨rfl, World.ownsRow_nil _ _ _ _, ⟨rfl, rfl, rfl, Nat.le_refl _, fun _ _ _ => rfl⟩⟩
  · have hgl : g < w.heap.size := (Array.getElem?_eq_some_iff.1 hC).1
    unfold maxLen at hcm
    clear h
    show Calls Try.prog 25 #[.slice (some ⟨g, 0, none⟩) n cap, .int .i64 k] w fun e w' => e = .returned (.int .i64 ((k + 3 * n : Nat) : Int)) ∧ w'.ownsRow base 65 3 (.slice (some ⟨g, 0, none⟩) n cap) n (cellsF (marks k n)) ∧ w.grownBy w' (some g)
    go_enter Try.func25, Try.ntmps25
    go_wp2
    go_loopw [1, 5] (fun l i wr => ∃ (j : Nat) (C : Array Value), j ≤ n ∧ i = .int .i64 j ∧ l = .int .i64 ((k + 3 * j : Nat) : Int) ∧ wr.heap[g]? = some (.cells C 65 (0, 0)) ∧ C.size = cap * 3 ∧ (∀ i, i < j → atC C i (mk1 (k + 3 * i))) ∧ w.grownBy wr (some g)) (fun _ i _ => n - (intOf i).toNat)
    case atStart => exact ⟨0, C, by omega, rfl, rfl, hC, hCs, (fun i h => absurd h (by omega)), ⟨rfl, rfl, rfl, Nat.le_refl _, fun _ _ _ => rfl⟩⟩
    case round =>
      clear hC hCs
      obtain ⟨j, C, hj, rfl, rfl, hC, hCs, hat, hgr⟩ := hrel
      have HAT : Hid (∀ i, i < j → atC C i (mk1 (k + 3 * i))) := hat
      have HGR : Hid (w.grownBy wr (some g)) := hgr
      clear hat hgr
      by_cases hlt : j < n
      · have hlt' : (j : Int) < n := by omega
        have hj0 : (0 : Int) ≤ j := by omega
        have hjc : j < cap := by omega
        obtain ⟨K, hK⟩ : ∃ K, k + 3 * j = K := ⟨_, rfl⟩
        have HK : Hid (k + 3 * j = K) := hK
        rw [hK]
        have hK9 : (K : Int) ≤ 100000000 := by omega
        have hK0 : (1 : Int) ≤ K := by omega
        have hm1 := fun w => markText_any K w (by omega) (by omega)
        have hm2 := fun w => markText_any (K + 1) w (by omega) (by omega)
        rw [show ((K + 1 : Nat) : Int) = (K : Int) + 1 by omega] at hm2
        obtain ⟨z, hz⟩ : ∃ z : Bool, (((K : Int) + 1 + 1) % 3 == 0) = z := ⟨_, rfl⟩
        have hmk : Hid (mk1 K = ⟨mkT K, mkT (K + 1), z⟩) := by show mk1 K = _; unfold mk1; rw [hz]
        obtain ⟨s1, hs1⟩ : ∃ s, mkT K = s := ⟨_, rfl⟩
        obtain ⟨s2, hs2⟩ : ∃ s, mkT (K + 1) = s := ⟨_, rfl⟩
        rw [hs1] at hm1 hmk
        rw [hs2] at hm2 hmk
        clear hK hs1 hs2
        go_wp2_with (first | (go_at_call 51; refine (hm1 _).mono ?_; clear hm1; rintro e w1 ⟨rfl, hb1⟩; have hC1 := blkB2 hb1 hC; obtain ⟨x, y, u, p0, p1, p2, f0, f1, f2⟩ := rowP hC1 hCs hjc; have hC2 := setC_heap (j * 3) (.string s1) hC1; have hCs2 : (C.setIfInBounds (j * 3) (.string s1)).size = cap * 3 := (by rw [Array.size_setIfInBounds]; exact hCs)) | (go_at_call 51; refine (hm2 _).mono ?_; clear hm2; rintro e w2 ⟨rfl, hb2⟩; have hC3 := blkB2 hb2 hC2; obtain ⟨x', y', u', p0', p1', p2', f0', f1', f2'⟩ := rowP hC3 hCs2 hjc; have hC4 := setC_heap (j * 3 + 1) (.string s2) hC3; have hCs4 : ((C.setIfInBounds (j * 3) (.string s1)).setIfInBounds (j * 3 + 1) (.string s2)).size = cap * 3 := (by rw [Array.size_setIfInBounds]; exact hCs2); obtain ⟨x'', y'', u'', p0'', p1'', p2'', f0'', f1'', f2''⟩ := rowP hC4 hCs4 hjc))
        have hg1 := grown_bel (grown_setC (grown_bel HGR.out hb1) (j * 3) (.string s1)) hb2
        go_roundw
        case rel =>
          refine ⟨j + 1, set3C C j ⟨s1, s2, z⟩, by omega, by go_num, by congr 1; have := HK.out; omega, setC_heap _ _ hC4, by rw [set3C_size]; exact hCs, ?_, grown_setC (grown_setC hg1 _ _) _ _⟩
          intro i hi
          by_cases e : j = i
          · subst e
            rw [HK.out, hmk.out]
            exact set3C_at C j cap _ hjc hCs
          · exact set3C_other C j i _ _ e (HAT.out i (by omega))
        case measure => simp [intOf]; omega
      · obtain rfl : j = n := by omega
        have hl := marks_length k j
        go_wp2
        go_ret
        refine ⟨rfl, ⟨by rw [cellsF_length, hl], .inr ⟨g, cap, C, rfl, hg, hC, hnc, by unfold maxLen; omega, hCs, ?_⟩⟩, HGR.out⟩
        exact atC_take hCs hnc hl (fun i hi => by rw [marks_at k j i hi]; exact HAT.out i (by rw [hl] at hi; exact hi))

set_option maxRecDepth 100000 in
set_option maxHeartbeats 4000000 in
theorem heldFieldS_any (n cap k : Nat) (a : Option Addr) (w : World) (h : Fs w a n cap (marks k n)) (hn : n ≤ 1048577) (k0 : 1 ≤ k) (k1 : k ≤ 10000000) :
    Calls Try.prog 27 #[.slice a n cap, .int .i64 k] w fun e w' => e = .returned (.int .i64 ((k + 3 * n : Nat) : Int)) ∧ Below w.heap.size w w' := by
  have HF : Hid (Fs w a n cap (marks k n)) := h
  clear h
  go_enter Try.func27, Try.ntmps27
  go_wp2
  go_loopw [1, 5] (fun l i wr => ∃ j : Nat, j ≤ n ∧ i = .int .i64 j ∧ l = .int .i64 ((k + 3 * j : Nat) : Int) ∧ Below w.heap.size w wr) (fun _ i _ => n - (intOf i).toNat)
  case atStart => exact ⟨0, by omega, rfl, rfl, Below.refl _ _⟩
  case round =>
    obtain ⟨j, hj, rfl, rfl, hbel⟩ := hrel
    by_cases hlt : j < n
    · have hlt' : (j : Int) < n := by omega
      have hj0 : (0 : Int) ≤ j := by omega
      have hjl : j < (marks k n).length := by rw [marks_length]; exact hlt
      obtain ⟨g, o, rfl⟩ := HF.out.some' (by omega)
      obtain ⟨c0, c1, c2⟩ := (HF.out.below hbel).at j hjl
      rw [marks_at k n j hjl] at c0 c1 c2
      obtain ⟨K, hK⟩ : ∃ K, k + 3 * j = K := ⟨_, rfl⟩
      have HK : Hid (k + 3 * j = K) := hK
      rw [hK] at c0 c1 c2 ⊢
      unfold mk1 at c0 c1 c2
      simp only at c0 c1 c2
      have hK9 : (K : Int) ≤ 100000000 := by omega
      have hK0 : (1 : Int) ≤ K := by omega
      have hm1 := fun w => markText_any K w (by omega) (by omega)
      have hm2 := fun w => markText_any (K + 1) w (by omega) (by omega)
      rw [show ((K + 1 : Nat) : Int) = (K : Int) + 1 by omega] at hm2
      obtain ⟨z, hz⟩ : ∃ z : Bool, (((K : Int) + 1 + 1) % 3 == 0) = z := ⟨_, rfl⟩
      rw [hz] at c2
      have hmx : Try.prog.follows .mixedOrders = true := by kernel_rfl
      clear hK
      have hkeepV : ∀ w1 w2 : World, Below w1.heap.size w1 w2 → (w1.cell? ⟨g, o + j * 3, none⟩ = some (.string (mkT K)) ∧ w1.cell? ⟨g, o + j * 3 + 1, none⟩ = some (.string (mkT (K + 1))) ∧ w1.cell? ⟨g, o + j * 3 + 2, none⟩ = some (.bool z) ∧ Below wr.heap.size wr w1) → (w2.cell? ⟨g, o + j * 3, none⟩ = some (.string (mkT K)) ∧ w2.cell? ⟨g, o + j * 3 + 1, none⟩ = some (.string (mkT (K + 1))) ∧ w2.cell? ⟨g, o + j * 3 + 2, none⟩ = some (.bool z) ∧ Below wr.heap.size wr w2) := by
        rintro w1 w2 hb ⟨h0, h1, h2, hB⟩
        exact ⟨keepc hb h0, keepc hb h1, keepc hb h2, bt' hB hb⟩
      have hBelV : ∀ w' : World, (w'.cell? ⟨g, o + j * 3, none⟩ = some (.string (mkT K)) ∧ w'.cell? ⟨g, o + j * 3 + 1, none⟩ = some (.string (mkT (K + 1))) ∧ w'.cell? ⟨g, o + j * 3 + 2, none⟩ = some (.bool z) ∧ Below wr.heap.size wr w') → Below wr.heap.size wr w' := fun w' h => h.2.2.2
      have hV0 : wr.cell? ⟨g, o + j * 3, none⟩ = some (.string (mkT K)) ∧ wr.cell? ⟨g, o + j * 3 + 1, none⟩ = some (.string (mkT (K + 1))) ∧ wr.cell? ⟨g, o + j * 3 + 2, none⟩ = some (.bool z) ∧ Below wr.heap.size wr wr := ⟨c0, c1, c2, Below.refl _ _⟩
      clear c0 c1 c2
      go_wp2
      go_region_held3 (fun w' => w'.cell? ⟨g, o + j * 3, none⟩ = some (.string (mkT K)) ∧ w'.cell? ⟨g, o + j * 3 + 1, none⟩ = some (.string (mkT (K + 1))) ∧ w'.cell? ⟨g, o + j * 3 + 2, none⟩ = some (.bool z) ∧ Below wr.heap.size wr w') (first | assumption | exact hkeepV _ _ ((Below.refl _ _).drew) hV0 | exact hkeepV _ _ hbN (by assumption)) ((first | (go_at_call 51; refine (hm1 _).mono ?_; clear hm1; rintro e wN ⟨rfl, hbN⟩)))
      have hV1 : wN.cell? ⟨g, o + j * 3, none⟩ = some (.string (mkT K)) ∧ wN.cell? ⟨g, o + j * 3 + 1, none⟩ = some (.string (mkT (K + 1))) ∧ wN.cell? ⟨g, o + j * 3 + 2, none⟩ = some (.bool z) ∧ Below wr.heap.size wr wN := by first | assumption | exact hkeepV _ _ hbN (by assumption)
      clear hV0
      go_wp2
      go_region_held3 (fun w' => w'.cell? ⟨g, o + j * 3, none⟩ = some (.string (mkT K)) ∧ w'.cell? ⟨g, o + j * 3 + 1, none⟩ = some (.string (mkT (K + 1))) ∧ w'.cell? ⟨g, o + j * 3 + 2, none⟩ = some (.bool z) ∧ Below wr.heap.size wr w') (first | assumption | exact hkeepV _ _ ((Below.refl _ _).drew) hV1 | exact hkeepV _ _ hbN (by assumption)) ((first | (go_at_call 51; refine (hm2 _).mono ?_; clear hm2; rintro e wN ⟨rfl, hbN⟩)))
      have hV2 : wN.cell? ⟨g, o + j * 3, none⟩ = some (.string (mkT K)) ∧ wN.cell? ⟨g, o + j * 3 + 1, none⟩ = some (.string (mkT (K + 1))) ∧ wN.cell? ⟨g, o + j * 3 + 2, none⟩ = some (.bool z) ∧ Below wr.heap.size wr wN := by first | assumption | exact hkeepV _ _ hbN (by assumption)
      clear hV1
      obtain ⟨q0, q1, q2, qB⟩ := id hV2
      go_wp2
      go_roundw
      case rel => exact ⟨j + 1, by omega, by go_num, by congr 1; have := HK.out; omega, bt' hbel qB⟩
      case measure => simp [intOf]; omega
    · obtain rfl : j = n := by omega
      go_wp2
      go_ret
      exact ⟨rfl, hbel⟩
end Go.Proofs.Ytbhoafiolalgaab

namespace Go.Proofs.Ytbhoafiolalgaab
open Go.RowKit
set_option linter.unusedVariables false

theorem own_aside1 {w w' : World} {base base' n n' : Nat} {e e' : TypeId} {v v' : Value} {xs ys : List Value} (h : w.ownsRow base e 3 v n xs) (h' : w.ownsRow base' e' 3 v' n' ys) (hlt : ∀ q, v.ownBlock = some q → q < base') (hg : w.grownBy w' v'.ownBlock) : w'.ownsRow base e 3 v n xs := by
  cases hv : v.ownBlock with
  | none => exact h.kept hg (.inl hv)
  | some q =>
    refine h.kept hg (.inr fun e1 => ?_)
    have h1 := hlt q hv
    have h2 := (h'.lt q (by rw [← e1]; exact hv)).1
    omega
theorem own_aside2 {w w' : World} {base base' n n' : Nat} {e e' : TypeId} {v v' : Value} {xs ys : List Value} (h : w.ownsRow base e 3 v n xs) (hlt : ∀ q, v'.ownBlock = some q → q < base) (hg : w.grownBy w' v'.ownBlock) : w'.ownsRow base e 3 v n xs := by
  cases hv : v.ownBlock with
  | none => exact h.kept hg (.inl hv)
  | some q =>
    refine h.kept hg (.inr fun e1 => ?_)
    have h1 := hlt q (by rw [← e1]; exact hv)
    have h2 := (h.lt q hv).1
    omega
theorem grown_pre {w w1 w2 : World} {row : Option Nat} (hb : Below w.heap.size w w1) (h : w1.grownBy w2 row) : w.grownBy w2 row :=
  ⟨h.os.trans hb.os, h.tape.trans hb.tape, h.output.trans hb.output, Nat.le_trans hb.size h.size, fun i hi hne => (h.block i (Nat.lt_of_lt_of_le hi hb.size) hne).trans (hb.block i hi)⟩
theorem row_aside {w w' : World} {L : Nat} {t : TypeId} {C : Array Value} {fr : Nat × Nat} {base n : Nat} {v : Value} {xs : List Value} (hL : w.heap[L]? = some (.cells C t fr)) (hte : t ≠ 65) (h : w.ownsRow base 65 3 v n xs) (hg : w.grownBy w' v.ownBlock) : w'.heap[L]? = some (.cells C t fr) :=
  (hg.block L (Array.getElem?_eq_some_iff.1 hL).1 (not_rowT hL hte h)).trans hL

set_option maxRecDepth 100000 in
set_option maxHeartbeats 1000000 in
theorem markTable_any (xs : List Value) (base n cap : Nat) (a : Option Addr) (m : Int) (w : World) (h : w.ownsRow base 65 3 (.slice a n cap) n xs) (hn : n ≤ 1048577) :
    Calls Try.prog 24 #[.agg #[.slice a n cap, .int .i64 m], .int .i64 1] w fun e w' => e = .returned (.int .i64 ((1 + 3 * n : Nat) : Int)) ∧ w'.ownsRow base 65 3 (.slice a n cap) n (cellsF (marks 1 n)) ∧ w.grownBy w' (Value.slice a n cap).ownBlock := by
  have hm := markFieldS_any xs base n cap 1 a _ (h.alloc (.cells #[.slice a n cap, .int .i64 m] 25)) hn (by decide) (by decide)
  have hb : Below w.heap.size w (w.alloc (.cells #[.slice a n cap, .int .i64 m] 25)) := (Below.refl _ _).alloc (Nat.le_refl _) _
  clear h
  go_enter Try.func24, Try.ntmps24
  go_wp2_with fail
  refine hm.mono ?_
  rintro e w1 ⟨rfl, ho, hg⟩
  go_wp2
  go_ret
  exact ⟨rfl, ho, grown_pre hb hg⟩

set_option maxRecDepth 100000 in
set_option maxHeartbeats 1000000 in
theorem heldTable_any (n cap : Nat) (a : Option Addr) (m : Int) (w : World) (h : Fs w a n cap (marks 1 n)) (hn : n ≤ 1048577) :
    Calls Try.prog 26 #[.agg #[.slice a n cap, .int .i64 m], .int .i64 1] w fun e w' => e = .returned (.int .i64 ((1 + 3 * n : Nat) : Int)) ∧ Below w.heap.size w w' := by
  have hb : Below w.heap.size w (w.alloc (.cells #[.slice a n cap, .int .i64 m] 25)) := (Below.refl _ _).alloc (Nat.le_refl _) _
  have hm := heldFieldS_any n cap 1 a _ (h.below hb) hn (by decide) (by decide)
  obtain ⟨K, hK⟩ : ∃ K : Nat, 1 + 3 * n = K := ⟨_, rfl⟩
  rw [hK] at hm ⊢
  have hd : decide ((K : Int) < 0) = false := by rw [decide_eq_false_iff_not]; omega
  have hd2 : ¬ (K : Int) < 0 := by omega
  clear h hK
  go_enter Try.func26, Try.ntmps26
  go_wp2_with fail
  refine hm.mono ?_
  rintro e w1 ⟨rfl, hb1⟩
  go_wp2
  go_ret
  exact ⟨rfl, bt' hb hb1⟩
end Go.Proofs.Ytbhoafiolalgaab
