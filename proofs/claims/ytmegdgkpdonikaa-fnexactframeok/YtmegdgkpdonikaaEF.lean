import Derived.Test.YtmegdgkpdonikaaFL0
import Derived.ChangeArms
import Derived.DataReads
import Derived.Deep.Slices
namespace Go.Proofs.Ytmegdgkpdonikaa
open Go.RowKit
set_option linter.unusedVariables false

set_option maxRecDepth 100000 in
theorem open_frame {H : Type} {enc : TypeId × Value → H} {W : World} {base : Nat} {sp : Nat → Bool} {held : Bool} {fuel : Nat} {cs : List Value} {x : DataW H × List MemPlace} (h : DataW.trod enc Try.prog W base sp held fuel 30 cs = some x) :
    ∃ f : Fr, cs = [.int .i64 f.k, .bool f.l, .int .i64 f.s, .string f.b] ∧ f.b.size ≤ maxLen := by
  obtain ⟨xs, n, _, _, hlen, hxl, hf⟩ := DataW.trod_struct Try.underlying30 h
  have hc4 : Try.prog.cellsOf 30 = 4 := by kernel_rfl
  have hcs : Try.prog.cellsOf 9 = 1 := by kernel_rfl
  have hcb : Try.prog.cellsOf 4 = 1 := by kernel_rfl
  have hci : Try.prog.cellsOf 3 = 1 := by kernel_rfl
  rw [hc4] at hlen
  match cs, hlen, xs, hxl with
  | [a, b, c, d], _, [y0, y1, y2, y3], _ =>
    have h0 := hf 0 _ rfl
    have h1 := hf 1 _ rfl
    have h2 := hf 2 _ rfl
    have h3 := hf 3 _ rfl
    simp [hcs, hcb, hci] at h0 h1 h2 h3
    obtain ⟨k, e0, _⟩ := DataW.trod_int Try.underlying3 h0
    obtain ⟨l, e1, _⟩ := DataW.trod_bool Try.underlying4 h1
    obtain ⟨s, e2, _⟩ := DataW.trod_int Try.underlying3 h2
    obtain ⟨b', e3, _, g3⟩ := DataW.trod_string Try.underlying9 h3
    simp at e0 e1 e2 e3
    subst e0 e1 e2 e3
    exact ⟨⟨k, l, s, b'⟩, rfl, g3⟩

set_option maxRecDepth 100000 in
set_option maxHeartbeats 400000 in
theorem szFrame_any (f : Fr) (left : Int) (w : World) (h : f.b.size ≤ maxLen) (l0 : 0 ≤ left) (l1 : left ≤ 1048576) :
    Calls Try.prog 13 #[.agg #[.int .i64 f.k, .bool f.l, .int .i64 f.s, .string f.b], .int .i64 left] w fun e w' => ∃ r : Int, e = .returned (.int .i64 r) ∧ (r = -1 ∨ (0 ≤ r ∧ r ≤ left ∧ (f.b.size : Int) ≤ left)) ∧ Below w.heap.size w w' := by
  unfold maxLen at h
  by_cases hz : (f.b.size : Int) ≤ left
  · have h1 : ¬ left - (f.b.size : Int) < 0 := by omega
    go_enter Try.func13, Try.ntmps13
    go_wp2
    go_ret
    exact ⟨left - (f.b.size : Int), rfl, Or.inr (by omega), (Below.refl _ _).alloc (Nat.le_refl _) _⟩
  · have h1 : left - (f.b.size : Int) < 0 := by omega
    have h2 : -9223372036854775808 ≤ left - (f.b.size : Int) := by omega
    go_enter Try.func13, Try.ntmps13
    go_wp2
    go_ret
    exact ⟨-1, rfl, Or.inl rfl, (Below.refl _ _).alloc (Nat.le_refl _) _⟩

set_option maxRecDepth 100000 in
set_option maxHeartbeats 400000 in
theorem toFrame_any (f : Fr) (w : World) :
    Calls Try.prog 14 #[.agg #[.int .i64 f.k, .bool f.l, .int .i64 f.s, .string f.b]] w fun e w' => e = .returned (.agg #[.int .i64 f.k, .bool f.l, .int .i64 f.s, .string f.b]) ∧ Below w.heap.size w w' := by
  go_enter Try.func14, Try.ntmps14
  go_wp2
  exact bodyPost_ret (v := .agg #[.int .i64 f.k, .bool f.l, .int .i64 f.s, .string f.b]) (by simp [results, Try.results14, go_sem]) rfl ⟨rfl, by go_grown⟩

end Go.Proofs.Ytmegdgkpdonikaa
