import Derived.Test.YtafhpcgdlmkbeaxTAdd
namespace Go.Proofs.Ytafhpcgdlmkbeax
open Go.RowKit
set_option linter.unusedVariables false

/-- The fixed fields. -/
def fixedL : List Fd := [⟨⟨#[58, 112, 97, 116, 104]⟩, ⟨#[]⟩, false⟩, ⟨⟨#[58, 115, 116, 97, 116, 117, 115]⟩, ⟨#[48]⟩, false⟩, ⟨⟨#[58, 115, 116, 97, 116, 117, 115]⟩, ⟨#[49, 50]⟩, false⟩, ⟨⟨#[107, 105, 110, 100]⟩, ⟨#[116, 101, 120, 116]⟩, false⟩, ⟨⟨#[115, 105, 122, 101]⟩, ⟨#[]⟩, false⟩, ⟨⟨#[116, 101]⟩, ⟨#[116, 114, 97, 105, 108, 101, 114, 115]⟩, false⟩]
theorem own_new (w : World) (base : Nat) (e : TypeId) (size n : Nat) (xs : List Value) (hb : base ≤ w.heap.size) (hn : n ≤ maxLen) (hl : xs.length = n * size) : (w.alloc (.cells xs.toArray e)).ownsRow base e size (.slice (some ⟨w.heap.size, 0, none⟩) n n) n xs :=
  ⟨hl, .inr ⟨w.heap.size, n, xs.toArray, rfl, hb, by show (w.heap.push _)[w.heap.size]? = _; simp, Nat.le_refl _, hn, by simp [hl], by simp [← hl]⟩⟩
set_option maxRecDepth 100000 in
set_option maxHeartbeats 400000 in
theorem specTableFixed (w : World) :
    Calls Try.prog 16 #[] w fun e w' => ∃ a c, e = .returned (.slice a 6 c) ∧ w'.ownsRow w.heap.size 30 3 (.slice a 6 c) 6 (cellsF fixedL) ∧ Below w.heap.size w w' := by
  go_enter Try.func16, Try.ntmps16
  go_wp2
  go_ret
  exact ⟨_, _, rfl, own_new w w.heap.size 30 3 6 (cellsF fixedL) (Nat.le_refl _) (by decide) rfl, (Below.refl _ _).alloc (Nat.le_refl _) _⟩
theorem five_two {w w1 w2 : World} {B : Nat} {x y : Value} (hb : Below w1.heap.size w1 w2) (h0 : w1.cell? ⟨B, 0, none⟩ = some x) (h1 : w1.cell? ⟨B, 1, none⟩ = some y) : w2.cell? ⟨B, 0, none⟩ = some x ∧ w2.cell? ⟨B, 1, none⟩ = some y :=
  ⟨(hb.cell (p := ⟨B, 0, none⟩) (World.block_lt_of_cell? w1 _ h0)).trans h0, (hb.cell (p := ⟨B, 1, none⟩) (World.block_lt_of_cell? w1 _ h1)).trans h1⟩
/-- What TableAt answers of an ok table. -/
def atV (fs : List Fd) (at' : Int) : Fd × Bool := if 1 ≤ at' ∧ at' ≤ 6 + fs.length then ((fixedL ++ fs).getD (at' - 1).toNat ⟨⟨#[]⟩, ⟨#[]⟩, false⟩, true) else (⟨⟨#[]⟩, ⟨#[]⟩, false⟩, false)
theorem infoF3 : (Try.prog.info? 30).map (·.size) = some 3 := by kernel_rfl
theorem results_cell_tmp {fn : Func} {p q : Tmp} {ty : TypeId} (h : fn.results = #[.cell p ty, .tmp q]) (tmps : Array Value) (w : World) (g : Nat) (cs : Array Value)
    (hp : tmps.getD p undef = .pointer (some ⟨g, 0, none⟩)) (hl : (loadVar ty ⟨g, 0, none⟩).run Try.prog w = .ok (.agg cs) w) :
    (results fn tmps).run Try.prog w = .ok (.tuple #[.agg cs, tmps.getD q undef]) w := by
  have hp' : tmps[p]?.getD undef = .pointer (some ⟨g, 0, none⟩) := by simpa using hp
  simp [results, h, hp', asAddr, hl]
theorem load_fld {w : World} {g : Nat} {x y z : Value} (hg : w.heap[g]? = some (.cells #[x, y, z] 30 (0, 0))) : (loadVar 30 ⟨g, 0, none⟩).run Try.prog w = .ok (.agg #[x, y, z]) w :=
  run_loadVar_row w g 30 30 #[x, y, z] (0, 0) _ hg Try.underlying30 rfl infoF3

/-- What TableAt answers. -/
def tabAt (fs : List Fd) (max at' : Int) : Fd × Bool := if tOk fs max then atV fs at' else (⟨⟨#[]⟩, ⟨#[]⟩, false⟩, false)
end Go.Proofs.Ytafhpcgdlmkbeax
