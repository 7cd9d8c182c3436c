import Derived.Test.YtdnajdobmlgmiaaProg
import Derived.Test.YtdnajdobmlgmiaaBA
import Derived.RegionTactic
import Derived.Deep.QuietTactic
import Derived.BigQuiet
import Derived.OpenShut
namespace Go.Proofs.Ytdnajdobmlgmiaa
open Go.RowKit
set_option linter.unusedVariables false

/-- A reader of a code, in memory: at block b; of the code at most 2000 bytes, which lie below it; at most N picks were made. -/
def Dr (w : World) (b N : Nat) : Prop :=
  ∃ (a : Option Addr) (len cap pn : Nat) (zs : List Int), w.cell? ⟨b, 0, none⟩ = some (.slice a len cap) ∧ w.cell? ⟨b, 1, none⟩ = some (.int .i64 pn) ∧ w.frozen? ⟨b, 1, none⟩ = false ∧ pn ≤ N ∧ len ≤ 2000 ∧
    (len = 0 ∨ ∃ bb off, a = some ⟨bb, off, none⟩ ∧ bb < b ∧ ∀ i, i < len → w.cell? ⟨bb, off + i, none⟩ = some (.int .u8 (zs.getD i 0)) ∧ 0 ≤ zs.getD i 0 ∧ zs.getD i 0 ≤ 255)

/-- What a pick leaves: the reader, one pick on; all other blocks as they were. -/
theorem dr_next {w : World} {b N k : Nat} {pn : Int} {m : Nat} (hpn : pn = (m : Int)) (hmN : m ≤ N) (h : Dr w b N) : Dr ((w.setCell ⟨b, 1, none⟩ (.int .i64 (pn + 1))).drewN k) b (N + 1) := by
  obtain ⟨a, len, cap, p, zs, c0, c1, f1, hp, hl, hz⟩ := h
  subst hpn
  refine ⟨a, len, cap, m + 1, zs, ?_, ?_, ?_, by omega, hl, ?_⟩
  · show (w.setCell ⟨b, 1, none⟩ _).cell? _ = _; go_cell
  · show (w.setCell ⟨b, 1, none⟩ _).cell? _ = _
    have e : ((m + 1 : Nat) : Int) = (m : Int) + 1 := by omega
    rw [e]; go_cell
  · show (w.setCell ⟨b, 1, none⟩ _).frozen? _ = _; go_cell
  · rcases hz with hz | ⟨bb, off, ha, hb, hc⟩
    · exact .inl hz
    · refine .inr ⟨bb, off, ha, hb, fun i hi => ⟨?_, (hc i hi).2⟩⟩
      show (w.setCell ⟨b, 1, none⟩ _).cell? _ = _
      rw [World.cell?_setCell_other _ _ _ _ (by intro h; injection h with h; omega)]
      exact (hc i hi).1

/-- All but one block is as it was. -/
structure Only (b : Nat) (w w' : World) : Prop where
  os : w'.os = w.os
  tape : w'.tape = w.tape
  output : w'.output = w.output
  size : w'.heap.size = w.heap.size
  block : ∀ k, k ≠ b → w'.heap[k]? = w.heap[k]?
theorem Only.below {b : Nat} {w w' : World} (h : Only b w w') : Below b w w' := ⟨h.os, h.tape, h.output, Nat.le_of_eq h.size.symm, fun k hk => h.block k (Nat.ne_of_lt hk)⟩
theorem Only.cell {b : Nat} {w w' : World} (h : Only b w w') {p : Addr} (hp : p.block ≠ b) : w'.cell? p = w.cell? p := World.cell?_of_block (w := w) (h.block p.block hp)
theorem Only.under {B b : Nat} {w w' w0 : World} (h0 : Below B w0 w) (h : Only b w w') (hB : B ≤ b) : Below B w0 w' := h0.trans (h.below.mono hB)
theorem only_next {w : World} {b k : Nat} {v : Value} : Only b w ((w.setCell ⟨b, 1, none⟩ v).drewN k) :=
  ⟨rfl, rfl, rfl, by show (w.setCell ⟨b, 1, none⟩ v).heap.size = _; simp, fun j hj => Below.heap_setCell w ⟨b, 1, none⟩ v j hj⟩

/-- What later worlds leave of a reader: nothing below the block behind it has turned. -/
theorem Dr.kept {w w' : World} {b N B : Nat} (h : Dr w b N) (hb : Below B w w') (hB : b < B) : Dr w' b N := by
  obtain ⟨a, len, cap, pn, zs, c0, c1, f1, hp, hl, hz⟩ := h
  refine ⟨a, len, cap, pn, zs, keep_cell hb hB c0, keep_cell hb hB c1, (hb.frozen (p := ⟨b, 1, none⟩) hB).trans f1, hp, hl, ?_⟩
  rcases hz with hz | ⟨bb, off, ha, hbb, hc⟩
  · exact .inl hz
  · exact .inr ⟨bb, off, ha, hbb, fun i hi => ⟨keep_cell hb (Nat.lt_trans hbb hB) (hc i hi).1, (hc i hi).2⟩⟩

/-- What is told of a slice of bytes that came in. -/
def Row (w : World) (a : Option Addr) (len cap : Nat) (zs : List Int) : Prop :=
  (a = none ∧ len = 0 ∧ cap = 0 ∧ zs = []) ∨
  ∃ x, a = some x ∧ len ≤ cap ∧ cap ≤ maxLen ∧ zs.length = cap ∧ (∀ i, i < zs.length → w.cell? (x.add i) = some (.int .u8 (zs.getD i 0))) ∧ ∀ n ∈ zs, (Lit.int .u8 n).wf = true

theorem Row.below {w w' : World} {a : Option Addr} {len cap : Nat} {zs : List Int} (h : Row w a len cap zs) (hb : Below w.heap.size w w') : Row w' a len cap zs := by
  rcases h with h | ⟨x, h1, h2, h3, h4, h5, h6⟩
  · exact .inl h
  · refine .inr ⟨x, h1, h2, h3, h4, fun i hi => ?_, h6⟩
    have hc := h5 i hi
    have hlt : (x.add i).block < w.heap.size := by
      rcases Nat.lt_or_ge (x.add i).block w.heap.size with h | h
      · exact h
      · exfalso
        unfold World.cell? at hc
        rw [Array.getElem?_eq_none h] at hc
        simp at hc
    rw [hb.cell hlt]
    exact hc

theorem Row.cap {w : World} {a : Option Addr} {len cap : Nat} {zs : List Int} (h : Row w a len cap zs) : len ≤ cap := by
  rcases h with ⟨_, rfl, rfl, _⟩ | ⟨x, _, h2, _⟩
  · exact Nat.le_refl _
  · exact h2

/-- 'string(more[:k])' of bytes that came in. -/
theorem row_string {P : Program} {e src dst : TypeId} (hs : P.underlying src = some (.slice e)) (he : P.underlying e = some (.int .u8)) (hd : P.underlying dst = some .string)
    {w : World} {a : Option Addr} {len cap : Nat} {zs : List Int} (h : Row w a len cap zs) (k : Nat) (hk : k ≤ len) : ∃ t : ByteArray, t.size = k ∧ (convert src dst (.slice a k cap)).run P w = .ok (.string t) w := by
  rcases h with ⟨rfl, rfl, rfl, rfl⟩ | ⟨x, rfl, h2, h3, h4, h5, h6⟩
  · have : k = 0 := by omega
    subst this
    exact ⟨_, rfl, run_convert_bytes_nil w src e hs he 0 0 dst hd⟩
  · by_cases h0 : k = 0
    · subst h0
      refine ⟨strOfNums [], rfl, ?_⟩
      have hl : (loadCells x 0).run P w = .ok ((([] : List Int).map (Value.int .u8)).toArray) w := by
        have := run_loadCells_list (P := P) w x [] (fun j v hj => by simp at hj)
        simpa using this
      rw [run_convert_bytes_string w src dst e _ 0 cap hs he hd, run_bytesToString w _ 0 cap [] hl]
      rfl
    · obtain ⟨bb, off, spot⟩ := x
      have hc0 := h5 0 (by omega)
      have hspot : spot = none := by simpa [Addr.add] using World.cell?_spot hc0
      subst hspot
      refine ⟨strOfNums (zs.take k), by rw [strOfNums_size, List.length_take]; omega, ?_⟩
      refine run_convert_bytes_arg w src e hs he bb off k cap (zs.take k) (by rw [List.length_take]; omega) ?_ dst hd
      intro i hi
      have := h5 i (by omega)
      rw [Addr.add_lit] at this
      rw [this]
      simp [List.getD, hi]

theorem wf_u8 {n : Int} (h : (Lit.int .u8 n).wf = true) : 0 ≤ n ∧ n ≤ 255 := bounds_u8 h

theorem dr_new (w : World) (t : TypeId) (a : Option Addr) (len cap : Nat) (zs : List Int) (hl : len ≤ 2000)
    (hz : len = 0 ∨ ∃ bb off, a = some ⟨bb, off, none⟩ ∧ bb < w.heap.size ∧ ∀ i, i < len → w.cell? ⟨bb, off + i, none⟩ = some (.int .u8 (zs.getD i 0)) ∧ 0 ≤ zs.getD i 0 ∧ zs.getD i 0 ≤ 255) :
    Dr (w.alloc (.cells #[.slice a len cap, .int .i64 0] t)) w.heap.size 0 := by
  refine ⟨a, len, cap, 0, zs, by simp, by simp, by simp, Nat.le_refl _, hl, ?_⟩
  rcases hz with hz | ⟨bb, off, ha, hb, hc⟩
  · exact .inl hz
  · refine .inr ⟨bb, off, ha, hb, fun i hi => ⟨?_, (hc i hi).2⟩⟩
    rw [(Below.alloc (Below.refl w.heap.size w) (Nat.le_refl _) _).cell (p := ⟨bb, off + i, none⟩) hb]
    exact (hc i hi).1

end Go.Proofs.Ytdnajdobmlgmiaa
