import Derived.Test.YtafhpcgdlmkbeaeTSpec
namespace Go.Proofs.Ytafhpcgdlmkbeae
open Go.RowKit
set_option linter.unusedVariables false

theorem keepc {w1 w2 : World} {p : Addr} {v : Value} (hb : Below w1.heap.size w1 w2) (h : w1.cell? p = some v) : w2.cell? p = some v := (hb.cell (World.block_lt_of_cell? w1 _ h)).trans h
theorem bt' {w a b : World} (h1 : Below w.heap.size w a) (h2 : Below a.heap.size a b) : Below w.heap.size w b := h1.trans (h2.mono h1.size)
theorem wabs {p : Program} {c : Code} {Q : Exit → Act → World → Prop} {a : Act} {w : World} (P : World → Prop) (h : P w) (k : ∀ W, P W → Code.wp p c Q a W) : Code.wp p c Q a w := k w h
theorem wabsE {K : Act → World → Prop} {Q : Exit → Act → World → Prop} {a : Act} {w : World} (P : World → Prop) (h : P w) (k : ∀ W, P W → Exit.then K Q Exit.normal a W) : Exit.then K Q Exit.normal a w := k w h
theorem row3c {W : World} {B : Nat} {a b c : Value} {t : TypeId} (h : W.heap[B]? = some (.cells #[a, b, c] t (0, 0))) : W.cell? ⟨B, 0, none⟩ = some a ∧ W.cell? ⟨B, 1, none⟩ = some b ∧ W.cell? ⟨B, 2, none⟩ = some c := ⟨cell_of_row _ _ 0 _ _ _ h, cell_of_row _ _ 1 _ _ _ h, cell_of_row _ _ 2 _ _ _ h⟩
theorem row2c {W : World} {B : Nat} {a b : Value} {t : TypeId} (h : W.heap[B]? = some (.cells #[a, b] t (0, 0))) : W.cell? ⟨B, 0, none⟩ = some a ∧ W.cell? ⟨B, 1, none⟩ = some b := ⟨cell_of_row _ _ 0 _ _ _ h, cell_of_row _ _ 1 _ _ _ h⟩
/-- Whether fields are the same. -/
def eqF (x y : Fd) : Bool := (x.n.toList == y.n.toList) && ((x.v.toList == y.v.toList) && (x.q == y.q))
def eqFs : List Fd → List Fd → Bool
  | [], [] => true
  | x :: s, y :: t => eqF x y && eqFs s t
  | _, _ => false
theorem eqB_iff {a b : ByteArray} : (a.toList == b.toList) = true ↔ a = b := by
  constructor
  · intro h
    by_cases e : a = b
    · exact e
    · rw [neF e] at h; cases h
  · exact eqT
theorem eqF_iff {x y : Fd} : eqF x y = true ↔ x = y := by
  unfold eqF
  rw [Bool.and_eq_true, Bool.and_eq_true, eqB_iff, eqB_iff]
  cases x; cases y
  simp
theorem eqFs_iff {s t : List Fd} : eqFs s t = true ↔ s = t := by
  induction s generalizing t with
  | nil => cases t <;> simp [eqFs]
  | cons x s ih =>
    cases t with
    | nil => simp [eqFs]
    | cons y t => simp only [eqFs, Bool.and_eq_true, eqF_iff, ih, List.cons.injEq]
theorem eqFs_self (s : List Fd) : eqFs s s = true := eqFs_iff.2 rfl
theorem eqFs_len {s t : List Fd} (h : s.length ≠ t.length) : eqFs s t = false := by
  cases e : eqFs s t with
  | false => rfl
  | true => rw [eqFs_iff.1 e] at h; exact absurd rfl h
theorem eqFs_at {s t : List Fd} {k : Nat} (h : k < s.length) (h' : k < t.length) : eqFs (s.drop k) (t.drop k) = (eqF s[k] t[k] && eqFs (s.drop (k + 1)) (t.drop (k + 1))) := by
  rw [List.drop_eq_getElem_cons h, List.drop_eq_getElem_cons h']; rfl

theorem eqFld (x y : Fd) (w : World) : (Op.equalIn 10000 35 (.agg #[.string x.n, .string x.v, .bool x.q]) (.agg #[.string y.n, .string y.v, .bool y.q])).run Try.prog w = .ok (eqF x y) w := by
  have hS : Try.prog.underlying 35 = some (.struct (Try.prog.fieldsOf 35)) := by kernel_rfl
  have hp : Try.prog.stoodInHeld 35 = false := by kernel_rfl
  rw [show (10000 : Nat) = 9999 + 1 from rfl, run_equalIn_agg w 9999 35 _ _ hS hp]
  simp only [Program.fieldsOf, Try.underlying35]
  unfold eqF
  go_simp
  by_cases h1 : x.n.toList = y.n.toList <;> by_cases h2 : x.v.toList = y.v.toList <;> by_cases h3 : x.q = y.q <;> simp [h1, h2, h3]

set_option maxRecDepth 100000 in
set_option maxHeartbeats 400000 in
theorem lkOne_any (f : Fd) (w : World) (h1 : f.n.size ≤ 1048576) (h2 : f.v.size ≤ 1048576) :
    Calls Try.prog 17 #[f.val] w fun e w' => e = .returned (.int .i64 (fLen f)) ∧ Below w.heap.size w w' := by
  unfold Fd.val fLen
  go_enter Try.func17, Try.ntmps17
  go_wp2
  go_ret
  exact ⟨rfl, (Below.refl _ _).alloc (Nat.le_refl _) _⟩

set_option maxRecDepth 100000 in
set_option maxHeartbeats 1000000 in
theorem lkFields_any (fs gs : List Fd) (a a' : Option Addr) (n cap n' cap' : Nat) (w : World) (hf : Fs w a n cap fs) (hg : Fs w a' n' cap' gs) (hn : n ≤ 1048576) (hn' : n' ≤ 1048576) :
    Calls Try.prog 14 #[.slice a n cap, .slice a' n' cap'] w fun e w' => e = .returned (.bool (eqFs fs gs)) ∧ Below w.heap.size w w' := by
  have HF : Hid (Fs w a n cap fs) := hf
  have HG : Hid (Fs w a' n' cap' gs) := hg
  have hl1 := hf.len
  have hl2 := hg.len
  clear hf hg
  obtain ⟨R, hR⟩ : ∃ R, eqFs fs gs = R := ⟨_, rfl⟩
  have HR : Hid (eqFs fs gs = R) := hR
  rw [hR]
  clear hR
  by_cases hnn : n = n'
  · subst hnn
    go_enter Try.func14, Try.ntmps14
    go_wp2
    go_loopw [5] (fun i wr => ∃ k : Nat, k ≤ n ∧ i = .int .i64 k ∧ eqFs fs gs = eqFs (fs.drop k) (gs.drop k) ∧ Below w.heap.size w wr) (fun i _ => n - (intOf i).toNat)
    case atStart => exact ⟨0, by omega, rfl, rfl, Below.refl _ _⟩
    case round =>
      obtain ⟨k, hk, rfl, hq, hbel⟩ := hrel
      have HQ : Hid (eqFs fs gs = eqFs (fs.drop k) (gs.drop k)) := hq
      clear hq
      by_cases hlt : k < n
      · have hlt' : (k : Int) < n := by omega
        have hk0 : (0 : Int) ≤ k := by omega
        have k1 : k < fs.length := by omega
        have k2 : k < gs.length := by omega
        obtain ⟨g, o, rfl⟩ := HF.out.some' (by omega)
        obtain ⟨g', o', rfl⟩ := HG.out.some' (by omega)
        obtain ⟨c0, c1, c2⟩ := (HF.out.below hbel).at k k1
        obtain ⟨d0, d1, d2⟩ := (HG.out.below hbel).at k k2
        have HA : Hid (eqFs (fs.drop k) (gs.drop k) = (eqF fs[k] gs[k] && eqFs (fs.drop (k + 1)) (gs.drop (k + 1)))) := eqFs_at k1 k2
        obtain ⟨x, hx⟩ : ∃ x, fs[k] = x := ⟨_, rfl⟩
        obtain ⟨y, hy⟩ : ∃ y, gs[k] = y := ⟨_, rfl⟩
        rw [hx] at c0 c1 c2 HA
        rw [hy] at d0 d1 d2 HA
        clear hx hy
        cases hE : eqF x y with
        | true =>
          rw [hE] at HA
          have HA2 : Hid (eqFs fs gs = eqFs (fs.drop (k + 1)) (gs.drop (k + 1))) := by show eqFs fs gs = _; rw [HQ.out, HA.out, Bool.true_and]
          obtain rfl := eqF_iff.1 hE
          clear hE
          go_wp2
          go_quiet (fail)
          go_wp2
          go_roundw
          case rel => exact ⟨k + 1, by omega, by go_num, HA2.out, bdrewT hbel _⟩
          case measure => simp [intOf]; omega
        | false =>
          rw [hE] at HA
          have HA2 : Hid (R = false) := by show R = false; rw [← HR.out, HQ.out, HA.out, Bool.false_and]
          have hq := fun w => eqFld x y w
          rw [hE] at hq
          go_wp2
          go_quiet (fail)
          go_wp2
          go_ret
          exact ⟨by rw [HA2.out]; rfl, bdrewT hbel _⟩
      · have HA2 : Hid (R = true) := by
          show R = true
          rw [← HR.out, HQ.out, List.drop_of_length_le (by omega), List.drop_of_length_le (by omega)]; rfl
        go_wp2
        go_ret
        exact ⟨by rw [HA2.out]; rfl, hbel⟩
  · have HA2 : Hid (R = false) := by
      show R = false
      rw [← HR.out]; exact eqFs_len (by omega)
    have hnd : ((n : Int) == (n' : Int)) = false := by simp; omega
    go_enter Try.func14, Try.ntmps14
    go_wp2
    go_ret
    exact ⟨by rw [HA2.out]; rfl, Below.refl _ _⟩

set_option maxRecDepth 100000 in
set_option maxHeartbeats 1000000 in
theorem lkTable_any (fs gs : List Fd) (a a' : Option Addr) (n cap n' cap' : Nat) (m m' : Int) (w : World) (hf : Fs w a n cap fs) (hg : Fs w a' n' cap' gs) (hn : n ≤ 1048576) (hn' : n' ≤ 1048576) :
    Calls Try.prog 11 #[.agg #[.slice a n cap, .int .i64 m], .agg #[.slice a' n' cap', .int .i64 m']] w fun e w' => e = .returned (.bool (m == m' && eqFs fs gs)) ∧ Below w.heap.size w w' := by
  have hb2 : Below w.heap.size w ((w.alloc (.cells #[.slice a n cap, .int .i64 m] 25)).alloc (.cells #[.slice a' n' cap', .int .i64 m'] 25)) := ((Below.refl _ _).alloc (Nat.le_refl _) _).alloc (by simp) _
  have hlk := lkFields_any fs gs a a' n cap n' cap' _ (hf.below hb2) (hg.below hb2) hn hn'
  clear hf hg
  obtain ⟨R, hR⟩ : ∃ R, eqFs fs gs = R := ⟨_, rfl⟩
  rw [hR] at hlk ⊢
  clear hR
  cases hm : (m == m') with
  | true =>
    rw [Bool.true_and]
    obtain rfl : m = m' := by simpa using hm
    clear hm
    go_enter Try.func11, Try.ntmps11
    go_wp2_with (go_at_call 14; refine hlk.mono ?_; rintro e w1 ⟨rfl, hb1⟩)
    go_ret
    exact ⟨rfl, hb2.trans (hb1.mono hb2.size)⟩
  | false =>
    rw [Bool.false_and]
    go_enter Try.func11, Try.ntmps11
    go_wp2
    go_ret
    exact ⟨rfl, hb2⟩
end Go.Proofs.Ytafhpcgdlmkbeae
