import Derived.Test.YtafhpcgdlmkbeaePick
namespace Go.Proofs.Ytafhpcgdlmkbeae
open Go.RowKit
set_option linter.unusedVariables false

/-- A draw goes on: of the world in which it began nothing has turned; the reader lies at block b. -/
structure St (w0 w : World) (b N : Nat) : Prop where
  dr : Dr w b N
  bel : Below b w0 w
  lt : b < w.heap.size
theorem St.alloc {w0 w : World} {b N : Nat} (h : St w0 w b N) (o : Obj) : St w0 (w.alloc o) b N :=
  ⟨h.dr.kept (Below.alloc (Below.refl w.heap.size w) (Nat.le_refl _) o) h.lt, h.bel.alloc (Nat.le_of_lt h.lt) o, by have := h.lt; simp; omega⟩
theorem St.grow {w0 w w' : World} {b N : Nat} (h : St w0 w b N) (hb : Below w.heap.size w w') : St w0 w' b N :=
  ⟨h.dr.kept hb h.lt, h.bel.trans (hb.mono (Nat.le_of_lt h.lt)), Nat.lt_of_lt_of_le h.lt hb.size⟩

theorem pick_st (b N : Nat) (n : Int) (w0 w : World) (h : St w0 w b N) (hN : N ≤ 1000000) (hn : 1 ≤ n) :
    Calls Try.prog 32 #[.pointer (some ⟨b, 0, none⟩), .int .i64 n] w fun e w' => ∃ v, e = .returned (.int .i64 v) ∧ 0 ≤ v ∧ v ≤ n - 1 ∧ St w0 w' b (N + 1) ∧ Only b w w' := by
  refine (pick_pos b N n w h.dr hN hn).mono ?_
  rintro e w' ⟨v, rfl, v0, v1, hd, ho⟩
  exact ⟨v, rfl, v0, v1, ⟨hd, ho.under h.bel (Nat.le_refl _), by rw [ho.size]; exact h.lt⟩, ho⟩

theorem open_st (a : Option Addr) (len cap : Nat) (zs : List Int) (w : World) (hr : Row w a len cap zs) :
    Calls Try.prog 30 #[.slice a len cap] w fun e w' => e = .returned (.pointer (some ⟨w.heap.size, 0, none⟩)) ∧ St w w' w.heap.size 0 := by
  refine (l6Open_any a len cap zs w hr).mono ?_
  rintro e w' ⟨rfl, hd, hb, hs⟩
  exact ⟨rfl, hd, hb, by omega⟩

/-- One of a list of numbers that was laid, behind a pick. -/
theorem idxL {w W : World} {b : Nat} {t : TypeId} (xs : List Int) (lo hi : Int) (ho : Only b (w.alloc (.cells (xs.map (Value.int .i64)).toArray t)) W) (hb : b < w.heap.size) (v : Int) (v0 : 0 ≤ v) (v1 : v < xs.length)
    (hx : ∀ x ∈ xs, lo ≤ x ∧ x ≤ hi) : ∃ y, W.cell? ⟨w.heap.size, v.toNat, none⟩ = some (.int .i64 y) ∧ lo ≤ y ∧ y ≤ hi := by
  have hi' : v.toNat < xs.length := by omega
  refine ⟨xs[v.toNat], ?_, hx _ (List.getElem_mem hi')⟩
  rw [ho.cell (p := ⟨w.heap.size, v.toNat, none⟩) (by show w.heap.size ≠ b; omega)]
  simp [hi']

end Go.Proofs.Ytafhpcgdlmkbeae
