import Derived.Test.YtghgcobnmmommaaProg
import Derived.Test.YtghgcobnmmommaaBA
import Derived.RegionTactic
import Derived.Deep.QuietTactic
import Derived.BigQuiet
import Derived.OpenShut
namespace Go.Proofs.Ytghgcobnmmommaa
open Go.RowKit
set_option linter.unusedVariables false

/-- A reader of a code, in memory: at block b; of the code at most 2000 bytes, which lie below it; at most N picks were made. -/
def Dr (w : World) (b N : Nat) : Prop :=
  ∃ (a : Option Addr) (len cap pn : Nat) (zs : List Int), w.cell? ⟨b, 0, none⟩ = some (.slice a len cap) ∧ w.cell? ⟨b, 1, none⟩ = some (.int .i64 pn) ∧ w.frozen? ⟨b, 1, none⟩ = false ∧ pn ≤ N ∧ len ≤ 2000 ∧
    (len = 0 ∨ ∃ bb off, a = some ⟨bb, off, none⟩ ∧ bb < b ∧ ∀ i, i < len → w.cell? ⟨bb, off + i, none⟩ = some (.int .u8 (zs.getD i 0)) ∧ 0 ≤ zs.getD i 0 ∧ zs.getD i 0 ≤ 255)

set_option maxRecDepth 100000 in
set_option maxHeartbeats 400000 in
theorem pickA (b : Nat) (sl : Value) (p n : Int) (w : World) (c0 : w.cell? ⟨b, 0, none⟩ = some sl) (c1 : w.cell? ⟨b, 1, none⟩ = some (.int .i64 p)) (f1 : w.frozen? ⟨b, 1, none⟩ = false) (p0 : 0 ≤ p) (p1 : p ≤ 1000000) (hn : n < 1) :
    Calls Try.prog 20 #[.pointer (some ⟨b, 0, none⟩), .int .i64 n] w fun e w' => e = .returned (.int .i64 0) ∧ w' = w.setCell ⟨b, 1, none⟩ (.int .i64 (p + 1)) := by
  go_enter Try.func20, Try.ntmps20
  go_wp2
  go_ret
  exact ⟨rfl, rfl⟩

set_option maxRecDepth 100000 in
set_option maxHeartbeats 400000 in
theorem pickB (b : Nat) (a : Option Addr) (cap : Nat) (p n : Int) (w : World) (c0 : w.cell? ⟨b, 0, none⟩ = some (.slice a 0 cap)) (c1 : w.cell? ⟨b, 1, none⟩ = some (.int .i64 p)) (f1 : w.frozen? ⟨b, 1, none⟩ = false) (p0 : 0 ≤ p) (p1 : p ≤ 1000000) (hn : 1 ≤ n) :
    Calls Try.prog 20 #[.pointer (some ⟨b, 0, none⟩), .int .i64 n] w fun e w' => e = .returned (.int .i64 0) ∧ w' = w.setCell ⟨b, 1, none⟩ (.int .i64 (p + 1)) := by
  go_enter Try.func20, Try.ntmps20
  go_wp2
  go_ret
  exact ⟨rfl, rfl⟩

set_option maxRecDepth 100000 in
set_option maxHeartbeats 400000 in
theorem pickC (b bb off len cap pn : Nat) (n y : Int) (w : World) (c0 : w.cell? ⟨b, 0, none⟩ = some (.slice (some ⟨bb, off, none⟩) len cap)) (c1 : w.cell? ⟨b, 1, none⟩ = some (.int .i64 pn)) (f1 : w.frozen? ⟨b, 1, none⟩ = false)
    (p1 : (pn : Int) ≤ 1000000) (hn : 1 ≤ n) (hbb : bb < b) (hl : (pn : Int) < len) (hl2 : (len : Int) ≤ 2000) (hy : w.cell? ⟨bb, off + pn, none⟩ = some (.int .u8 y)) (y0 : 0 ≤ y) (y1 : y ≤ 255) :
    Calls Try.prog 20 #[.pointer (some ⟨b, 0, none⟩), .int .i64 n] w fun e w' => e = .returned (.int .i64 (y % n)) ∧ w' = w.setCell ⟨b, 1, none⟩ (.int .i64 (pn + 1)) := by
  have hne : ((len : Int) == 0) = false := by simp; omega
  have hnz : (n == 0) = false := by simp; omega
  go_enter Try.func20, Try.ntmps20
  go_wp2
  go_ret
  exact ⟨rfl, rfl⟩

set_option maxRecDepth 100000 in
set_option maxHeartbeats 400000 in
theorem pickD (b bb off len cap pn : Nat) (n y z : Int) (w : World) (c0 : w.cell? ⟨b, 0, none⟩ = some (.slice (some ⟨bb, off, none⟩) len cap)) (c1 : w.cell? ⟨b, 1, none⟩ = some (.int .i64 pn)) (f1 : w.frozen? ⟨b, 1, none⟩ = false)
    (p1 : (pn : Int) ≤ 1000000) (hn : 1 ≤ n) (hbb : bb < b) (h0 : 1 ≤ (len : Int)) (hl : (len : Int) ≤ pn) (hl2 : (len : Int) ≤ 2000) (hy : w.cell? ⟨bb, off + pn % len, none⟩ = some (.int .u8 y)) (y0 : 0 ≤ y) (y1 : y ≤ 255)
    (hz : w.cell? ⟨bb, off + (pn * 7 + 3) % len, none⟩ = some (.int .u8 z)) (z0 : 0 ≤ z) (z1 : z ≤ 255) :
    Calls Try.prog 20 #[.pointer (some ⟨b, 0, none⟩), .int .i64 n] w fun e w' => (∃ v, e = .returned (.int .i64 v) ∧ 0 ≤ v ∧ v < n) ∧ ∃ k, w' = (w.setCell ⟨b, 1, none⟩ (.int .i64 (pn + 1))).drewN k := by
  have hne : ((len : Int) == 0) = false := by simp; omega
  have hnz : (n == 0) = false := by simp; omega
  have m1 : 0 ≤ (pn : Int) % len := Int.emod_nonneg _ (by omega)
  have m2 : (pn : Int) % len < len := Int.emod_lt_of_pos _ (by omega)
  have m3 : 0 ≤ ((pn : Int) * 7 + 3) % len := Int.emod_nonneg _ (by omega)
  have m4 : ((pn : Int) * 7 + 3) % len < len := Int.emod_lt_of_pos _ (by omega)
  have m5 : 0 ≤ (pn : Int) / len := Int.ediv_nonneg (by omega) (by omega)
  have m6 : (pn : Int) / len ≤ 1000000 := Int.le_trans (Int.ediv_le_self _ (by omega)) p1
  have x1 := (i64_xor_bd (y * 131 + z * 1117 + ↑pn * 29 + ↑pn / ↑len * 53) ((y * 131 + z * 1117 + ↑pn * 29 + ↑pn / ↑len * 53) / 64) (by omega) (by omega) (by omega) (by omega)).1
  have x2 := (i64_xor_bd (y * 131 + z * 1117 + ↑pn * 29 + ↑pn / ↑len * 53) ((y * 131 + z * 1117 + ↑pn * 29 + ↑pn / ↑len * 53) / 64) (by omega) (by omega) (by omega) (by omega)).2
  go_enter Try.func20, Try.ntmps20
  go_wp2
  go_quiet (fail)
  go_wp2
  go_ret
  exact ⟨⟨_, rfl, Int.emod_nonneg _ (by omega), Int.emod_lt_of_pos _ (by omega)⟩, _, rfl⟩

/-- What a pick leaves: the reader, one pick on; all other blocks as they were. -/
theorem dr_next {w : World} {b N k : Nat} {pn : Int} {m : Nat} (hpn : pn = (m : Int)) (hmN : m ≤ N) (h : Dr w b N) : Dr ((w.setCell ⟨b, 1, none⟩ (.int .i64 (pn + 1))).drewN k) b (N + 1) := by
  obtain ⟨a, len, cap, p, zs, c0, c1, f1, hp, hl, hz⟩ := h
  subst hpn
  refine ⟨a, len, cap, m + 1, zs, ?_, ?_, ?_, by omega, hl, ?_⟩
  · show (w.setCell ⟨b, 1, none⟩ _).cell? _ = _; go_cell
  · show (w.setCell ⟨b, 1, none⟩ _).cell? _ = _
    have e : ((m + 1 : Nat) : Int) = (m : Int) + 1 := by omega
    rw [e]; go_cell
  · show (w.setCell ⟨b, 1, none⟩ _).frozen? _ = _; go_cell
  · rcases hz with hz | ⟨bb, off, ha, hb, hc⟩
    · exact .inl hz
    · refine .inr ⟨bb, off, ha, hb, fun i hi => ⟨?_, (hc i hi).2⟩⟩
      show (w.setCell ⟨b, 1, none⟩ _).cell? _ = _
      rw [World.cell?_setCell_other _ _ _ _ (by intro h; injection h with h; omega)]
      exact (hc i hi).1

/-- All but one block is as it was. -/
structure Only (b : Nat) (w w' : World) : Prop where
  os : w'.os = w.os
  tape : w'.tape = w.tape
  output : w'.output = w.output
  size : w'.heap.size = w.heap.size
  block : ∀ k, k ≠ b → w'.heap[k]? = w.heap[k]?
theorem Only.below {b : Nat} {w w' : World} (h : Only b w w') : Below b w w' := ⟨h.os, h.tape, h.output, Nat.le_of_eq h.size.symm, fun k hk => h.block k (Nat.ne_of_lt hk)⟩
theorem Only.cell {b : Nat} {w w' : World} (h : Only b w w') {p : Addr} (hp : p.block ≠ b) : w'.cell? p = w.cell? p := World.cell?_of_block (w := w) (h.block p.block hp)
theorem Only.under {B b : Nat} {w w' w0 : World} (h0 : Below B w0 w) (h : Only b w w') (hB : B ≤ b) : Below B w0 w' := h0.trans (h.below.mono hB)
theorem only_next {w : World} {b k : Nat} {v : Value} : Only b w ((w.setCell ⟨b, 1, none⟩ v).drewN k) :=
  ⟨rfl, rfl, rfl, by show (w.setCell ⟨b, 1, none⟩ v).heap.size = _; simp, fun j hj => Below.heap_setCell w ⟨b, 1, none⟩ v j hj⟩

theorem pick_any (b N : Nat) (n : Int) (w : World) (h : Dr w b N) (hN : N ≤ 1000000) :
    Calls Try.prog 20 #[.pointer (some ⟨b, 0, none⟩), .int .i64 n] w fun e w' => (∃ v, e = .returned (.int .i64 v) ∧ 0 ≤ v ∧ (v < n ∨ v = 0)) ∧ Dr w' b (N + 1) ∧ Only b w w' := by
  have h0 := h
  obtain ⟨a, len, cap, pn, zs, c0, c1, f1, hp, hl, hz⟩ := h
  have s0 : ∀ W : World, W = W.drewN 0 := fun W => rfl
  by_cases hn : n < 1
  · refine (pickA b _ _ n w c0 c1 f1 (by omega) (by omega) hn).mono ?_
    rintro e w' ⟨rfl, rfl⟩
    refine ⟨⟨0, rfl, by omega, .inr rfl⟩, ?_, ?_⟩
    · rw [s0 (w.setCell _ _)]; exact dr_next rfl hp h0
    · rw [s0 (w.setCell _ _)]; exact only_next
  · by_cases hlen : len = 0
    · subst hlen
      refine (pickB b _ _ _ n w c0 c1 f1 (by omega) (by omega) (by omega)).mono ?_
      rintro e w' ⟨rfl, rfl⟩
      refine ⟨⟨0, rfl, by omega, .inr rfl⟩, ?_, ?_⟩
      · rw [s0 (w.setCell _ _)]; exact dr_next rfl hp h0
      · rw [s0 (w.setCell _ _)]; exact only_next
    · obtain ⟨bb, off, rfl, hb, hc⟩ := hz.resolve_left hlen
      by_cases hk : pn < len
      · refine (pickC b bb off len cap pn n _ w c0 c1 f1 (by omega) (by omega) hb (by omega) (by omega) (hc pn hk).1 (hc pn hk).2.1 (hc pn hk).2.2).mono ?_
        rintro e w' ⟨rfl, rfl⟩
        refine ⟨⟨_, rfl, Int.emod_nonneg _ (by omega), .inl (Int.emod_lt_of_pos _ (by omega))⟩, ?_, ?_⟩
        · rw [s0 (w.setCell _ _)]; exact dr_next rfl hp h0
        · rw [s0 (w.setCell _ _)]; exact only_next
      · have i1 : pn % len < len := Nat.mod_lt _ (by omega)
        have i2 : (pn * 7 + 3) % len < len := Nat.mod_lt _ (by omega)
        refine (pickD b bb off len cap pn n _ _ w c0 c1 f1 (by omega) (by omega) hb (by omega) (by omega) (by omega) (hc _ i1).1 (hc _ i1).2.1 (hc _ i1).2.2 (hc _ i2).1 (hc _ i2).2.1 (hc _ i2).2.2).mono ?_
        rintro e w' ⟨⟨v, rfl, v0, v1⟩, k, rfl⟩
        exact ⟨⟨v, rfl, v0, .inl v1⟩, dr_next rfl hp h0, only_next⟩

/-- What later worlds leave of a reader: nothing below the block behind it has turned. -/
theorem Dr.kept {w w' : World} {b N B : Nat} (h : Dr w b N) (hb : Below B w w') (hB : b < B) : Dr w' b N := by
  obtain ⟨a, len, cap, pn, zs, c0, c1, f1, hp, hl, hz⟩ := h
  refine ⟨a, len, cap, pn, zs, keep_cell hb hB c0, keep_cell hb hB c1, (hb.frozen (p := ⟨b, 1, none⟩) hB).trans f1, hp, hl, ?_⟩
  rcases hz with hz | ⟨bb, off, ha, hbb, hc⟩
  · exact .inl hz
  · exact .inr ⟨bb, off, ha, hbb, fun i hi => ⟨keep_cell hb (Nat.lt_trans hbb hB) (hc i hi).1, (hc i hi).2⟩⟩

theorem pick_pos (b N : Nat) (n : Int) (w : World) (h : Dr w b N) (hN : N ≤ 1000000) (hn : 1 ≤ n) :
    Calls Try.prog 20 #[.pointer (some ⟨b, 0, none⟩), .int .i64 n] w fun e w' => ∃ v, e = .returned (.int .i64 v) ∧ 0 ≤ v ∧ v ≤ n - 1 ∧ Dr w' b (N + 1) ∧ Only b w w' := by
  refine (pick_any b N n w h hN).mono ?_
  rintro e w' ⟨⟨v, rfl, v0, v1⟩, hd, ho⟩
  exact ⟨v, rfl, v0, by omega, hd, ho⟩

/-- What is told of a slice of bytes that came in. -/
def Row (w : World) (a : Option Addr) (len cap : Nat) (zs : List Int) : Prop :=
  (a = none ∧ len = 0 ∧ cap = 0 ∧ zs = []) ∨
  ∃ x, a = some x ∧ len ≤ cap ∧ cap ≤ maxLen ∧ zs.length = cap ∧ (∀ i, i < zs.length → w.cell? (x.add i) = some (.int .u8 (zs.getD i 0))) ∧ ∀ n ∈ zs, (Lit.int .u8 n).wf = true

theorem Row.below {w w' : World} {a : Option Addr} {len cap : Nat} {zs : List Int} (h : Row w a len cap zs) (hb : Below w.heap.size w w') : Row w' a len cap zs := by
  rcases h with h | ⟨x, h1, h2, h3, h4, h5, h6⟩
  · exact .inl h
  · refine .inr ⟨x, h1, h2, h3, h4, fun i hi => ?_, h6⟩
    have hc := h5 i hi
    have hlt : (x.add i).block < w.heap.size := by
      rcases Nat.lt_or_ge (x.add i).block w.heap.size with h | h
      · exact h
      · exfalso
        unfold World.cell? at hc
        rw [Array.getElem?_eq_none h] at hc
        simp at hc
    rw [hb.cell hlt]
    exact hc

theorem Row.cap {w : World} {a : Option Addr} {len cap : Nat} {zs : List Int} (h : Row w a len cap zs) : len ≤ cap := by
  rcases h with ⟨_, rfl, rfl, _⟩ | ⟨x, _, h2, _⟩
  · exact Nat.le_refl _
  · exact h2

/-- 'string(more[:k])' of bytes that came in. -/
theorem row_string {P : Program} {e src dst : TypeId} (hs : P.underlying src = some (.slice e)) (he : P.underlying e = some (.int .u8)) (hd : P.underlying dst = some .string)
    {w : World} {a : Option Addr} {len cap : Nat} {zs : List Int} (h : Row w a len cap zs) (k : Nat) (hk : k ≤ len) : ∃ t : ByteArray, t.size = k ∧ (convert src dst (.slice a k cap)).run P w = .ok (.string t) w := by
  rcases h with ⟨rfl, rfl, rfl, rfl⟩ | ⟨x, rfl, h2, h3, h4, h5, h6⟩
  · have : k = 0 := by omega
    subst this
    exact ⟨_, rfl, run_convert_bytes_nil w src e hs he 0 0 dst hd⟩
  · by_cases h0 : k = 0
    · subst h0
      refine ⟨strOfNums [], rfl, ?_⟩
      have hl : (loadCells x 0).run P w = .ok ((([] : List Int).map (Value.int .u8)).toArray) w := by
        have := run_loadCells_list (P := P) w x [] (fun j v hj => by simp at hj)
        simpa using this
      rw [run_convert_bytes_string w src dst e _ 0 cap hs he hd, run_bytesToString w _ 0 cap [] hl]
      rfl
    · obtain ⟨bb, off, spot⟩ := x
      have hc0 := h5 0 (by omega)
      have hspot : spot = none := by simpa [Addr.add] using World.cell?_spot hc0
      subst hspot
      refine ⟨strOfNums (zs.take k), by rw [strOfNums_size, List.length_take]; omega, ?_⟩
      refine run_convert_bytes_arg w src e hs he bb off k cap (zs.take k) (by rw [List.length_take]; omega) ?_ dst hd
      intro i hi
      have := h5 i (by omega)
      rw [Addr.add_lit] at this
      rw [this]
      simp [List.getD, hi]

theorem wf_u8 {n : Int} (h : (Lit.int .u8 n).wf = true) : 0 ≤ n ∧ n ≤ 255 := bounds_u8 h

set_option maxRecDepth 100000 in
set_option maxHeartbeats 400000 in
theorem l6OpenA (a : Option Addr) (len cap : Nat) (w : World) (h : (len : Int) ≤ 2000) :
    Calls Try.prog 19 #[.slice a len cap] w fun e w' => e = .returned (.pointer (some ⟨w.heap.size, 0, none⟩)) ∧ w' = w.alloc (.cells #[.slice a len cap, .int .i64 0] 96) := by
  go_enter Try.func19, Try.ntmps19
  go_wp2
  go_ret
  exact ⟨rfl, rfl⟩

set_option maxRecDepth 100000 in
set_option maxHeartbeats 400000 in
theorem l6OpenB (bb off len cap : Nat) (w : World) (h : 2000 < (len : Int)) (hc : (len : Int) ≤ cap) (hm : (cap : Int) ≤ 9223372036854775807) :
    Calls Try.prog 19 #[.slice (some ⟨bb, off, none⟩) len cap] w fun e w' => e = .returned (.pointer (some ⟨w.heap.size, 0, none⟩)) ∧ w' = w.alloc (.cells #[.slice (some ⟨bb, off, none⟩) 2000 cap, .int .i64 0] 96) := by
  have h2 : (2000 : Int) ≤ cap := by omega
  go_enter Try.func19, Try.ntmps19
  go_wp2
  go_ret
  exact ⟨rfl, rfl⟩

theorem dr_new (w : World) (t : TypeId) (a : Option Addr) (len cap : Nat) (zs : List Int) (hl : len ≤ 2000)
    (hz : len = 0 ∨ ∃ bb off, a = some ⟨bb, off, none⟩ ∧ bb < w.heap.size ∧ ∀ i, i < len → w.cell? ⟨bb, off + i, none⟩ = some (.int .u8 (zs.getD i 0)) ∧ 0 ≤ zs.getD i 0 ∧ zs.getD i 0 ≤ 255) :
    Dr (w.alloc (.cells #[.slice a len cap, .int .i64 0] t)) w.heap.size 0 := by
  refine ⟨a, len, cap, 0, zs, by simp, by simp, by simp, Nat.le_refl _, hl, ?_⟩
  rcases hz with hz | ⟨bb, off, ha, hb, hc⟩
  · exact .inl hz
  · refine .inr ⟨bb, off, ha, hb, fun i hi => ⟨?_, (hc i hi).2⟩⟩
    rw [(Below.alloc (Below.refl w.heap.size w) (Nat.le_refl _) _).cell (p := ⟨bb, off + i, none⟩) hb]
    exact (hc i hi).1

theorem l6Open_any (a : Option Addr) (len cap : Nat) (zs : List Int) (w : World) (hr : Row w a len cap zs) :
    Calls Try.prog 19 #[.slice a len cap] w fun e w' => e = .returned (.pointer (some ⟨w.heap.size, 0, none⟩)) ∧ Dr w' w.heap.size 0 ∧ Below w.heap.size w w' ∧ w'.heap.size = w.heap.size + 1 := by
  rcases hr with ⟨rfl, rfl, rfl, rfl⟩ | ⟨x, rfl, hl, hm, hz, hcell, hwf⟩
  · refine (l6OpenA none 0 0 w (by decide)).mono ?_
    rintro e w' ⟨rfl, rfl⟩
    exact ⟨rfl, dr_new w _ none 0 0 [] (by decide) (.inl rfl), Below.alloc (Below.refl _ _) (Nat.le_refl _) _, by simp⟩
  · by_cases h0 : len = 0
    · subst h0
      refine (l6OpenA (some x) 0 cap w (by decide)).mono ?_
      rintro e w' ⟨rfl, rfl⟩
      exact ⟨rfl, dr_new w _ _ 0 cap [] (by decide) (.inl rfl), Below.alloc (Below.refl _ _) (Nat.le_refl _) _, by simp⟩
    · obtain ⟨bb, off, spot⟩ := x
      have hc0 := hcell 0 (by omega)
      have hspot : spot = none := by simpa [Addr.add] using World.cell?_spot hc0
      subst hspot
      have hcs : ∀ i, i < cap → w.cell? ⟨bb, off + i, none⟩ = some (.int .u8 (zs.getD i 0)) ∧ 0 ≤ zs.getD i 0 ∧ zs.getD i 0 ≤ 255 := fun i hi => by
        refine ⟨by have := hcell i (by omega); simpa [Addr.add_lit] using this, ?_⟩
        have hi' : i < zs.length := by omega
        have : zs.getD i 0 = zs[i] := by simp [List.getD, hi']
        rw [this]
        exact wf_u8 (hwf _ (List.getElem_mem hi'))
      have hbb : bb < w.heap.size := by
        have hc := (hcs 0 (by omega)).1
        rcases Nat.lt_or_ge bb w.heap.size with h | h
        · exact h
        · exfalso
          unfold World.cell? at hc
          rw [Array.getElem?_eq_none (by exact h)] at hc
          simp at hc
      by_cases h2 : len ≤ 2000
      · refine (l6OpenA _ len cap w (by omega)).mono ?_
        rintro e w' ⟨rfl, rfl⟩
        exact ⟨rfl, dr_new w _ _ len cap zs h2 (.inr ⟨bb, off, rfl, hbb, fun i hi => hcs i (by omega)⟩), Below.alloc (Below.refl _ _) (Nat.le_refl _) _, by simp⟩
      · have hm' : cap ≤ 9223372036854775807 := hm
        refine (l6OpenB bb off len cap w (by omega) (by omega) (by omega)).mono ?_
        rintro e w' ⟨rfl, rfl⟩
        exact ⟨rfl, dr_new w _ _ 2000 cap zs (Nat.le_refl _) (.inr ⟨bb, off, rfl, hbb, fun i hi => hcs i (by omega)⟩), Below.alloc (Below.refl _ _) (Nat.le_refl _) _, by simp⟩
end Go.Proofs.Ytghgcobnmmommaa
