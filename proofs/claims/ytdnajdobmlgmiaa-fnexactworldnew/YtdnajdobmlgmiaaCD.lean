import Derived.Test.YtdnajdobmlgmiaaCE
import Derived.Laws.Rows
import Derived.Deep.WholeRow
import Derived.Deep.DeepCutAuto
import Derived.ChangeArms
import Derived.DataReads
import Derived.Deep.Slices
namespace Go.Proofs.Ytdnajdobmlgmiaa
open Go.RowKit
set_option linter.unusedVariables false

/-- A flow. -/
structure Fw where
  s : Int
  r : Int
def Fw.val (f : Fw) : Value := .agg #[.int .i64 f.s, .int .i64 f.r]
def zFw : Fw := ⟨0, 0⟩
def flOk (f : Fw) : Bool := decide (0 ≤ f.s ∧ f.s ≤ 31) && decide (0 ≤ f.r ∧ f.r ≤ 31)
def flSend (f : Fw) (n : Int) : Fw × Bool := if flOk f = true ∧ 0 ≤ n ∧ n ≤ f.s then (⟨f.s - n, f.r⟩, true) else (zFw, false)
def flMore (f : Fw) (n : Int) : Fw × Bool := if flOk f = true ∧ 1 ≤ n ∧ n ≤ 31 - f.s then (⟨f.s + n, f.r⟩, true) else (zFw, false)
def flGot (f : Fw) (n : Int) : Fw × Bool := if flOk f = true ∧ 0 ≤ n ∧ n ≤ f.r then (⟨f.s, f.r - n⟩, true) else (zFw, false)
def flGive (f : Fw) (a : Int) : Fw × Int := if flOk f = true ∧ 0 ≤ a ∧ a ≤ 31 then (if f.r < a then (⟨f.s, a⟩, a - f.r) else (f, 0)) else (zFw, 0)
theorem flOk_iff {f : Fw} : flOk f = true ↔ (0 ≤ f.s ∧ f.s ≤ 31) ∧ (0 ≤ f.r ∧ f.r ≤ 31) := by unfold flOk; rw [Bool.and_eq_true, decide_eq_true_eq, decide_eq_true_eq]
theorem flOk_no {f : Fw} : flOk f = false ↔ ¬ ((0 ≤ f.s ∧ f.s ≤ 31) ∧ (0 ≤ f.r ∧ f.r ≤ 31)) := by rw [← flOk_iff]; simp
theorem flSend_yes {f : Fw} {n : Int} (h : flOk f = true) (h0 : 0 ≤ n) (h1 : n ≤ f.s) : flSend f n = (⟨f.s - n, f.r⟩, true) := if_pos ⟨h, h0, h1⟩
theorem flSend_no {f : Fw} {n : Int} (h : ¬ (flOk f = true ∧ 0 ≤ n ∧ n ≤ f.s)) : flSend f n = (zFw, false) := if_neg h
theorem flMore_yes {f : Fw} {n : Int} (h : flOk f = true) (h0 : 1 ≤ n) (h1 : n ≤ 31 - f.s) : flMore f n = (⟨f.s + n, f.r⟩, true) := if_pos ⟨h, h0, h1⟩
theorem flMore_no {f : Fw} {n : Int} (h : ¬ (flOk f = true ∧ 1 ≤ n ∧ n ≤ 31 - f.s)) : flMore f n = (zFw, false) := if_neg h
theorem flGot_yes {f : Fw} {n : Int} (h : flOk f = true) (h0 : 0 ≤ n) (h1 : n ≤ f.r) : flGot f n = (⟨f.s, f.r - n⟩, true) := if_pos ⟨h, h0, h1⟩
theorem flGot_no {f : Fw} {n : Int} (h : ¬ (flOk f = true ∧ 0 ≤ n ∧ n ≤ f.r)) : flGot f n = (zFw, false) := if_neg h
theorem flGive_no {f : Fw} {a : Int} (h : ¬ (flOk f = true ∧ 0 ≤ a ∧ a ≤ 31)) : flGive f a = (zFw, 0) := if_neg h
theorem flGive_less {f : Fw} {a : Int} (h : flOk f = true) (h0 : 0 ≤ a) (h1 : a ≤ 31) (h2 : f.r < a) : flGive f a = (⟨f.s, a⟩, a - f.r) := by unfold flGive; rw [if_pos ⟨h, h0, h1⟩, if_pos h2]
theorem flGive_same {f : Fw} {a : Int} (h : flOk f = true) (h0 : 0 ≤ a) (h1 : a ≤ 31) (h2 : ¬ f.r < a) : flGive f a = (f, 0) := by unfold flGive; rw [if_pos ⟨h, h0, h1⟩, if_neg h2]
end Go.Proofs.Ytdnajdobmlgmiaa

namespace Go.Proofs.Ytdnajdobmlgmiaa
open Go.RowKit
set_option linter.unusedVariables false

theorem infoFw2 : (Try.prog.info? 27).map (·.size) = some 2 := by kernel_rfl
theorem load_fw {w : World} {g : Nat} {x y : Value} (hg : w.heap[g]? = some (.cells #[x, y] 27 (0, 0))) : (loadVar 27 ⟨g, 0, none⟩).run Try.prog w = .ok (.agg #[x, y]) w :=
  run_loadVar_row w g 27 27 #[x, y] (0, 0) _ hg Try.underlying27 rfl infoFw2
theorem results_ctW {fn : Func} {p q : Tmp} {ty : TypeId} (h : fn.results = #[.cell p ty, .tmp q]) (tmps : Array Value) (w : World) (g : Nat) (cs : Array Value)
    (hp : tmps.getD p undef = .pointer (some ⟨g, 0, none⟩)) (hl : (loadVar ty ⟨g, 0, none⟩).run Try.prog w = .ok (.agg cs) w) :
    (results fn tmps).run Try.prog w = .ok (.tuple #[.agg cs, tmps.getD q undef]) w := by
  have hp' : tmps[p]?.getD undef = .pointer (some ⟨g, 0, none⟩) := by simpa using hp
  simp [results, h, hp', asAddr, hl]
theorem results_cW {fn : Func} {p : Tmp} {ty : TypeId} (h : fn.results = #[.cell p ty]) (tmps : Array Value) (w : World) (g : Nat) (cs : Array Value)
    (hp : tmps.getD p undef = .pointer (some ⟨g, 0, none⟩)) (hl : (loadVar ty ⟨g, 0, none⟩).run Try.prog w = .ok (.agg cs) w) :
    (results fn tmps).run Try.prog w = .ok (.agg cs) w := by
  have hp' : tmps[p]?.getD undef = .pointer (some ⟨g, 0, none⟩) := by simpa using hp
  simp [results, h, hp', asAddr, hl]
theorem row2w {W : World} {B : Nat} {a b : Value} {t : TypeId} (h : W.heap[B]? = some (.cells #[a, b] t (0, 0))) : W.cell? ⟨B, 0, none⟩ = some a ∧ W.cell? ⟨B, 1, none⟩ = some b ∧ W.frozen? ⟨B, 0, none⟩ = false ∧ W.frozen? ⟨B, 1, none⟩ = false := by
  refine ⟨?_, ?_, ?_, ?_⟩ <;> simp [World.cell?, World.frozen?, h]
theorem setc_heapW {W : World} {B : Nat} {cs : Array Value} {t : TypeId} (o : Nat) (v : Value) (h : W.heap[B]? = some (.cells cs t (0, 0))) : (W.setCell ⟨B, o, none⟩ v).heap[B]? = some (.cells (cs.setIfInBounds o v) t (0, 0)) := by
  obtain ⟨hlt, hk⟩ := Array.getElem?_eq_some_iff.1 h
  show (W.heap.modify B _)[B]? = _
  rw [Array.getElem?_eq_getElem (by rw [Array.size_modify]; exact hlt), Array.getElem_modify_self, hk]
  rfl
theorem setW0 {W : World} {B : Nat} {a b : Value} {t : TypeId} (y : Value) (h : W.heap[B]? = some (.cells #[a, b] t (0, 0))) : (W.setCell ⟨B, 0, none⟩ y).heap[B]? = some (.cells #[y, b] t (0, 0)) := by
  have := setc_heapW 0 y h
  simpa using this
theorem setW1 {W : World} {B : Nat} {a b : Value} {t : TypeId} (y : Value) (h : W.heap[B]? = some (.cells #[a, b] t (0, 0))) : (W.setCell ⟨B, 1, none⟩ y).heap[B]? = some (.cells #[a, y] t (0, 0)) := by
  have := setc_heapW 1 y h
  simpa using this
theorem set2W {W : World} {B : Nat} {a b : Value} {t : TypeId} (x y : Value) (h : W.heap[B]? = some (.cells #[a, b] t (0, 0))) : ((W.setCell ⟨B, 0, none⟩ x).setCell ⟨B, 1, none⟩ y).heap[B]? = some (.cells #[x, y] t (0, 0)) := setW1 y (setW0 x h)
theorem setWo {W : World} {B C o : Nat} {x : Obj} (y : Value) (h : W.heap[C]? = some x) (hne : C ≠ B) : (W.setCell ⟨B, o, none⟩ y).heap[C]? = some x := (Below.heap_setCell W ⟨B, o, none⟩ y C hne).trans h
theorem belW1 {n : Nat} {w W : World} {B o : Nat} (h : Below n w W) (hB : n ≤ B) (x : Value) : Below n w (W.setCell ⟨B, o, none⟩ x) := h.setCell (p := ⟨B, o, none⟩) hB _
theorem wabsW {p : Program} {c : Code} {Q : Exit → Act → World → Prop} {a : Act} {w : World} (P : World → Prop) (h : P w) (k : ∀ W, P W → Code.wp p c Q a W) : Code.wp p c Q a w := k w h

set_option maxRecDepth 100000 in
set_option maxHeartbeats 1000000 in
theorem specFlowOk (f : Fw) (w : World) :
    Calls Try.prog 40 #[f.val] w fun e w' => e = .returned (.bool (flOk f)) ∧ Below w.heap.size w w' := by
  obtain ⟨s, r⟩ := f
  unfold Fw.val flOk
  dsimp only
  by_cases h1 : 0 ≤ s ∧ s ≤ 31
  · have c1 := fun w => l6In_yes s 0 31 w h1
    rw [decide_eq_true h1]
    by_cases h2 : 0 ≤ r ∧ r ≤ 31
    · have c2 := fun w => l6In_yes r 0 31 w h2
      rw [decide_eq_true h2]
      clear h1 h2
      go_enter Try.func40, Try.ntmps40
      go_wp2_with (first | (go_at_call 59; refine (c1 _).mono ?_; clear c1; rintro e w' ⟨rfl, rfl⟩) | (go_at_call 59; refine (c2 _).mono ?_; clear c2; rintro e w' ⟨rfl, rfl⟩))
      go_ret
      exact ⟨rfl, (Below.refl _ _).alloc (Nat.le_refl _) _⟩
    · have c2 := fun w => l6In_no r 0 31 w h2
      rw [decide_eq_false h2]
      clear h1 h2
      go_enter Try.func40, Try.ntmps40
      go_wp2_with (first | (go_at_call 59; refine (c1 _).mono ?_; clear c1; rintro e w' ⟨rfl, rfl⟩) | (go_at_call 59; refine (c2 _).mono ?_; clear c2; rintro e w' ⟨rfl, rfl⟩))
      go_ret
      exact ⟨rfl, (Below.refl _ _).alloc (Nat.le_refl _) _⟩
  · have c1 := fun w => l6In_no s 0 31 w h1
    rw [decide_eq_false h1]
    clear h1
    go_enter Try.func40, Try.ntmps40
    go_wp2_with (go_at_call 59; refine (c1 _).mono ?_; clear c1; rintro e w' ⟨rfl, rfl⟩)
    go_ret
    exact ⟨rfl, (Below.refl _ _).alloc (Nat.le_refl _) _⟩

end Go.Proofs.Ytdnajdobmlgmiaa

namespace Go.Proofs.Ytdnajdobmlgmiaa
open Go.RowKit
set_option linter.unusedVariables false

end Go.Proofs.Ytdnajdobmlgmiaa

namespace Go.Proofs.Ytdnajdobmlgmiaa
open Go.RowKit
set_option linter.unusedVariables false

def eqFw (x y : Fw) : Bool := (x.s == y.s) && (x.r == y.r)
theorem eqFw_iff {x y : Fw} : eqFw x y = true ↔ x = y := by
  unfold eqFw
  rw [Bool.and_eq_true]
  cases x; cases y
  simp
theorem eqFw_self (x : Fw) : eqFw x x = true := eqFw_iff.2 rfl
theorem eqFw_no {x y : Fw} (h : x ≠ y) : eqFw x y = false := by
  cases e : eqFw x y with
  | false => rfl
  | true => exact absurd (eqFw_iff.1 e) h
set_option maxRecDepth 100000 in
theorem eqFw_run (x y : Fw) (w : World) : (Op.equalIn 10000 27 (.agg #[.int .i64 x.s, .int .i64 x.r]) (.agg #[.int .i64 y.s, .int .i64 y.r])).run Try.prog w = .ok (eqFw x y) w := by
  have hS : Try.prog.underlying 27 = some (.struct (Try.prog.fieldsOf 27)) := by kernel_rfl
  have hp : Try.prog.stoodInHeld 27 = false := by kernel_rfl
  rw [show (10000 : Nat) = 9999 + 1 from rfl, run_equalIn_agg w 9999 27 _ _ hS hp]
  simp only [Program.fieldsOf, Try.underlying27]
  unfold eqFw
  go_simp
  by_cases h1 : x.s = y.s <;> by_cases h2 : x.r = y.r <;> simp [h1, h2]
end Go.Proofs.Ytdnajdobmlgmiaa

namespace Go.Proofs.Ytdnajdobmlgmiaa
open Go.RowKit
set_option linter.unusedVariables false

set_option maxRecDepth 100000 in
theorem open_flow {H : Type} {enc : TypeId × Value → H} {W : World} {base : Nat} {sp : Nat → Bool} {held : Bool} {fuel : Nat} {cs : List Value} {x : DataW H × List MemPlace} (h : DataW.trod enc Try.prog W base sp held fuel 41 cs = some x) :
    ∃ f : Fw, cs = [.int .i64 f.s, .int .i64 f.r] := by
  obtain ⟨xs, n, _, _, hlen, hxl, hf⟩ := DataW.trod_struct Try.underlying41 h
  have hc2 : Try.prog.cellsOf 41 = 2 := by kernel_rfl
  have hci : Try.prog.cellsOf 3 = 1 := by kernel_rfl
  rw [hc2] at hlen
  match cs, hlen, xs, hxl with
  | [a, b], _, [y0, y1], _ =>
    have h0 := hf 0 _ rfl
    have h1 := hf 1 _ rfl
    simp [hci] at h0 h1
    obtain ⟨k, e0, _⟩ := DataW.trod_int Try.underlying3 h0
    obtain ⟨s, e1, _⟩ := DataW.trod_int Try.underlying3 h1
    simp at e0 e1
    subst e0 e1
    exact ⟨⟨k, s⟩, rfl⟩

set_option maxRecDepth 100000 in
set_option maxHeartbeats 400000 in
theorem toFlow_any (f : Fw) (w : World) :
    Calls Try.prog 43 #[.agg #[.int .i64 f.s, .int .i64 f.r]] w fun e w' => e = .returned (.agg #[.int .i64 f.s, .int .i64 f.r]) ∧ Below w.heap.size w w' := by
  go_enter Try.func43, Try.ntmps43
  go_wp2
  exact bodyPost_ret (v := .agg #[.int .i64 f.s, .int .i64 f.r]) (by simp [results, Try.results43, go_sem]) rfl ⟨rfl, by go_grown⟩

set_option maxRecDepth 100000 in
set_option maxHeartbeats 400000 in
theorem eqFlow_same (f : Fw) (w : World) :
    Calls Try.prog 26 #[.agg #[.int .i64 f.s, .int .i64 f.r], .agg #[.int .i64 f.s, .int .i64 f.r]] w fun e w' => e = .returned (.bool true) ∧ Below w.heap.size w w' := by
  go_enter Try.func26, Try.ntmps26
  go_wp2
  go_ret
  exact ⟨rfl, by go_grown⟩
end Go.Proofs.Ytdnajdobmlgmiaa
