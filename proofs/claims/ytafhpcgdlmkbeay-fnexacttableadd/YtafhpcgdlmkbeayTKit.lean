import Derived.Test.YtafhpcgdlmkbeayProg
import Derived.Test.YtafhpcgdlmkbeayWKit
import Derived.Test.YtafhpcgdlmkbeayWSgn
import Derived.Laws.AppendOwn
namespace Go.Proofs.Ytafhpcgdlmkbeay
open Go.RowKit
set_option linter.unusedVariables false

/-- A field: a name, a value, and whether no table may keep it. -/
structure Fd where
  n : ByteArray
  v : ByteArray
  q : Bool
def Fd.val (f : Fd) : Value := .agg #[.string f.n, .string f.v, .bool f.q]
/-- Fields, in memory. -/
def cellsF (fs : List Fd) : List Value := fs.flatMap fun f => [.string f.n, .string f.v, .bool f.q]
theorem cellsF_cons (f : Fd) (fs : List Fd) : cellsF (f :: fs) = .string f.n :: .string f.v :: .bool f.q :: cellsF fs := by simp [cellsF]
theorem cellsF_append (a b : List Fd) : cellsF (a ++ b) = cellsF a ++ cellsF b := by simp [cellsF]
theorem cellsF_length (fs : List Fd) : (cellsF fs).length = fs.length * 3 := by
  induction fs with
  | nil => rfl
  | cons f t ih => rw [cellsF_cons, List.length_cons, List.length_cons, List.length_cons, ih, List.length_cons]; omega
theorem cellsF_at (fs : List Fd) (k : Nat) (h : k < fs.length) : (cellsF fs)[k * 3]? = some (.string fs[k].n) ∧ (cellsF fs)[k * 3 + 1]? = some (.string fs[k].v) ∧ (cellsF fs)[k * 3 + 2]? = some (.bool fs[k].q) := by
  induction fs generalizing k with
  | nil => simp at h
  | cons f t ih =>
    cases k with
    | zero => simp [cellsF_cons]
    | succ k =>
      have := ih k (by simpa using h)
      rw [cellsF_cons, show (k + 1) * 3 = k * 3 + 1 + 1 + 1 by omega]
      simpa using this
theorem cellsF_one (fs : List Fd) : ∀ u ∈ cellsF fs, u.oneCell' = true := by
  intro u hu
  obtain ⟨f, _, h⟩ := List.mem_flatMap.1 hu
  simp at h
  rcases h with rfl | rfl | rfl <;> rfl
/-- A slice of fields that can be read. -/
structure Fs (w : World) (a : Option Addr) (n cap : Nat) (fs : List Fd) : Prop where
  len : fs.length = n
  le : n ≤ cap
  cmax : cap ≤ maxLen
  cells : ∀ g o, a = some ⟨g, o, none⟩ → ∀ j u, (cellsF fs)[j]? = some u → w.cell? ⟨g, o + j, none⟩ = some u
  some' : 0 < n → ∃ g o, a = some ⟨g, o, none⟩
  form : (a = none ∧ n = 0 ∧ cap = 0) ∨ ∃ g o, a = some ⟨g, o, none⟩
theorem Fs.at {w : World} {g o n cap : Nat} {fs : List Fd} (h : Fs w (some ⟨g, o, none⟩) n cap fs) (k : Nat) (hk : k < fs.length) :
    w.cell? ⟨g, o + k * 3, none⟩ = some (.string fs[k].n) ∧ w.cell? ⟨g, o + k * 3 + 1, none⟩ = some (.string fs[k].v) ∧ w.cell? ⟨g, o + k * 3 + 2, none⟩ = some (.bool fs[k].q) := by
  have h1 := cellsF_at fs k hk
  refine ⟨h.cells g o rfl _ _ h1.1, ?_, ?_⟩
  · have := h.cells g o rfl _ _ h1.2.1
    rwa [show o + (k * 3 + 1) = o + k * 3 + 1 by omega] at this
  · have := h.cells g o rfl _ _ h1.2.2
    rwa [show o + (k * 3 + 2) = o + k * 3 + 2 by omega] at this
theorem Fs.lt {w : World} {g o n cap : Nat} {fs : List Fd} (h : Fs w (some ⟨g, o, none⟩) n cap fs) (hn : 0 < n) : g < w.heap.size := by
  have h1 := (h.at 0 (by rw [h.len]; exact hn)).1
  exact World.block_lt_of_cell? w _ h1
theorem Fs.below {w w' : World} {a : Option Addr} {n cap : Nat} {fs : List Fd} (h : Fs w a n cap fs) (hb : Below w.heap.size w w') : Fs w' a n cap fs := by
  refine ⟨h.len, h.le, h.cmax, ?_, h.some', h.form⟩
  intro g o e j u hu
  have hc := h.cells g o e j u hu
  rw [hb.cell (p := ⟨g, o + j, none⟩) (World.block_lt_of_cell? w _ hc)]
  exact hc
/-- Fields that are not too long to be told. -/
def fsBd (fs : List Fd) : Prop := ∀ f ∈ fs, f.n.size ≤ 1048576 ∧ f.v.size ≤ 1048576
/-- Whether a field is ok. -/
def fOk (f : Fd) : Bool := wOk (bytesL f.n) && (!f.n.toList.isEmpty) && wOk (bytesL f.v)
/-- How large a field is; fields together. -/
def fLen (f : Fd) : Int := f.n.size + f.v.size + 4
def fSum : List Fd → Int
  | [] => 0
  | f :: t => fLen f + fSum t
theorem fSum_snoc (fs : List Fd) (f : Fd) : fSum (fs ++ [f]) = fSum fs + fLen f := by
  induction fs with
  | nil => simp [fSum]
  | cons a t ih => simp only [List.cons_append, fSum, ih]; omega
theorem fSum_bd (fs : List Fd) (h : fsBd fs) : 0 ≤ fSum fs ∧ fSum fs ≤ 2097156 * fs.length := by
  induction fs with
  | nil => simp [fSum]
  | cons a t ih =>
    have h1 := h a (by simp)
    have h2 := ih (fun f hf => h f (by simp [hf]))
    simp only [fSum, fLen, List.length_cons]
    omega
/-- Whether a table is ok. -/
def tOk (fs : List Fd) (max : Int) : Bool := fs.all (fun f => fOk f && !f.q) && (decide (0 ≤ max) && decide (max ≤ 64) && decide (fSum fs ≤ max))
end Go.Proofs.Ytafhpcgdlmkbeay
