import Derived.Test.YtloegojbenjfdabPick
import Derived.Test.YtloegojbenjfdabNumS
namespace Go.Proofs.Ytloegojbenjfdab
open Go.RowKit
set_option linter.unusedVariables false

/-- A draw goes on: of the world in which it began nothing has turned; the reader lies at block b. -/
structure St (w0 w : World) (b N : Nat) : Prop where
  dr : Dr w b N
  bel : Below b w0 w
  lt : b < w.heap.size
theorem St.alloc {w0 w : World} {b N : Nat} (h : St w0 w b N) (o : Obj) : St w0 (w.alloc o) b N :=
  ⟨h.dr.kept (Below.alloc (Below.refl w.heap.size w) (Nat.le_refl _) o) h.lt, h.bel.alloc (Nat.le_of_lt h.lt) o, by have := h.lt; simp; omega⟩
theorem St.grow {w0 w w' : World} {b N : Nat} (h : St w0 w b N) (hb : Below w.heap.size w w') : St w0 w' b N :=
  ⟨h.dr.kept hb h.lt, h.bel.trans (hb.mono (Nat.le_of_lt h.lt)), Nat.lt_of_lt_of_le h.lt hb.size⟩

theorem pick_st (b N : Nat) (n : Int) (w0 w : World) (h : St w0 w b N) (hN : N ≤ 1000000) (hn : 1 ≤ n) :
    Calls Try.prog 9 #[.pointer (some ⟨b, 0, none⟩), .int .i64 n] w fun e w' => ∃ v, e = .returned (.int .i64 v) ∧ 0 ≤ v ∧ v ≤ n - 1 ∧ St w0 w' b (N + 1) ∧ Only b w w' := by
  refine (pick_pos b N n w h.dr hN hn).mono ?_
  rintro e w' ⟨v, rfl, v0, v1, hd, ho⟩
  exact ⟨v, rfl, v0, v1, ⟨hd, ho.under h.bel (Nat.le_refl _), by rw [ho.size]; exact h.lt⟩, ho⟩

theorem open_st (a : Option Addr) (len cap : Nat) (zs : List Int) (w : World) (hr : Row w a len cap zs) :
    Calls Try.prog 8 #[.slice a len cap] w fun e w' => e = .returned (.pointer (some ⟨w.heap.size, 0, none⟩)) ∧ St w w' w.heap.size 0 := by
  refine (l6Open_any a len cap zs w hr).mono ?_
  rintro e w' ⟨rfl, hd, hb, hs⟩
  exact ⟨rfl, hd, hb, by omega⟩

/-- One of a list of numbers that was laid, behind a pick. -/
theorem idxL {w W : World} {b : Nat} {t : TypeId} (xs : List Int) (lo hi : Int) (ho : Only b (w.alloc (.cells (xs.map (Value.int .i64)).toArray t)) W) (hb : b < w.heap.size) (v : Int) (v0 : 0 ≤ v) (v1 : v < xs.length)
    (hx : ∀ x ∈ xs, lo ≤ x ∧ x ≤ hi) : ∃ y, W.cell? ⟨w.heap.size, v.toNat, none⟩ = some (.int .i64 y) ∧ lo ≤ y ∧ y ≤ hi := by
  have hi' : v.toNat < xs.length := by omega
  refine ⟨xs[v.toNat], ?_, hx _ (List.getElem_mem hi')⟩
  rw [ho.cell (p := ⟨w.heap.size, v.toNat, none⟩) (by show w.heap.size ≠ b; omega)]
  simp [hi']

theorem pw_bd (v : Int) (h0 : 3 ≤ v) (h1 : v ≤ 7) : 8 ≤ pw v ∧ pw v ≤ 128 := by
  rcases bits_cases h0 h1 with rfl | rfl | rfl | rfl | rfl <;> decide
theorem pw_bd2 (v : Int) (h0 : 1 ≤ v) (h1 : v ≤ 5) : 2 ≤ pw v ∧ pw v ≤ 32 := by
  rcases (by omega : v = 1 ∨ v = 2 ∨ v = 3 ∨ v = 4 ∨ v = 5) with rfl | rfl | rfl | rfl | rfl <;> decide

set_option maxHeartbeats 1000000 in
theorem drawNumWrite (a : Option Addr) (len cap : Nat) (zs : List Int) (w : World) (hr : Row w a len cap zs) :
    Calls Try.prog 4 #[.slice a len cap] w fun e w' => ∃ n bits head : Int, e = .returned (.tuple #[.int .i64 n, .int .i64 bits, .int .i64 head]) ∧ -1 ≤ n ∧ n ≤ 10000 ∧ 2 ≤ bits ∧ bits ≤ 8 ∧ -1 ≤ head ∧ head ≤ 32 ∧ Below w.heap.size w w' := by
  have HR : Hid (Row w a len cap zs) := hr
  clear hr
  go_enter Try.func4, Try.ntmps4
  go_wp2_with fail
  refine (open_st _ _ _ _ _ HR.out).mono ?_
  rintro e w1 ⟨rfl, s1⟩
  clear HR
  go_wp2_with fail
  refine (pick_st _ _ _ _ _ s1 (by decide) (by decide)).mono ?_
  rintro e w2 ⟨v2, rfl, v20, v21, s2, _⟩
  have p2 := pw_bd (3 + v2) (by omega) (by omega)
  have p3 := pw_bd2 (8 - (3 + v2)) (by omega) (by omega)
  obtain ⟨p20, p21⟩ := p2
  obtain ⟨p30, p31⟩ := p3
  clear s1
  go_wp2_with fail
  refine (pick_st _ _ _ _ _ s2 (by decide) (by decide)).mono ?_
  rintro e w3 ⟨v3, rfl, v30, v31, s3, _⟩
  clear s2
  go_wp2_with fail
  refine (pick_st _ _ _ _ _ s3 (by decide) (by decide)).mono ?_
  rintro e w4 ⟨v4, rfl, v40, v41, s4, _⟩
  clear s3
  go_wp2_with fail
  refine (pick_st _ _ _ _ _ s4 (by decide) (by decide)).mono ?_
  rintro e w5 ⟨v5, rfl, v50, v51, s5, _⟩
  clear s4
  go_wp2_with fail
  refine (pick_st _ _ _ _ _ s5 (by decide) (by decide)).mono ?_
  rintro e w6 ⟨v6, rfl, v60, v61, s6, _⟩
  clear s5
  go_wp2_with fail
  refine (l1Top_any _ _ (by omega) (by omega)).mono ?_
  rintro e w6' ⟨rfl, rfl⟩
  go_wp2_with fail
  refine (pick_st _ _ _ _ _ s6 (by decide) (by decide)).mono ?_
  rintro e w7 ⟨v7, rfl, v70, v71, s7, _⟩
  clear s6
  go_wp2_with fail
  refine (pick_st _ _ _ _ _ (s7.alloc _) (by decide) (by decide)).mono ?_
  rintro e w8 ⟨v8, rfl, v80, v81, s8, o8⟩
  obtain ⟨n, hn, n0, n1⟩ := idxL [v3, v4, v5, v6, pw (3 + v2) - 2 + v7] 0 10000 o8 s7.lt v8 v80 (by simp; omega) (by
    intro x hx
    simp at hx
    omega)
  clear o8 s7 v30 v31 v40 v41 v50 v51 v60 v61 v70 v71
  go_wp2_with fail
  refine (l1Top_any _ _ (by omega) (by omega)).mono ?_
  rintro e w8' ⟨rfl, rfl⟩
  clear hn
  go_wp2_with fail
  refine (pick_st _ _ _ _ _ s8 (by decide) (by omega)).mono ?_
  rintro e w9 ⟨head, rfl, h0, h1, s9, _⟩
  clear s8
  go_wp2_with fail
  refine (pick_st _ _ _ _ _ s9 (by decide) (by decide)).mono ?_
  rintro e w10 ⟨k, rfl, k0, k1, s10, _⟩
  clear s9
  by_cases e0 : (k == 0) = true
  · go_wp2_with fail
    refine (pick_st _ _ _ _ _ (s10.alloc _) (by decide) (by decide)).mono ?_
    rintro e w11 ⟨v, rfl, v0, v1, s11, o11⟩
    obtain ⟨y, hy, y0, y1⟩ := idxL [-1, 10000] (-1) 10000 o11 s10.lt v v0 (by simp; omega) (by
      intro x hx
      simp at hx
      omega)
    clear o11 s10
    go_wp2
    go_ret3
    exact ⟨_, _, _, rfl, by omega, by omega, by omega, by omega, by omega, by omega, s11.bel⟩
  · have e0' : (k == 0) = false := by simpa using e0
    clear e0
    by_cases e1 : (k == 1) = true
    · go_wp2_with fail
      refine (pick_st _ _ _ _ _ (s10.alloc _) (by decide) (by decide)).mono ?_
      rintro e w11 ⟨v, rfl, v0, v1, s11, o11⟩
      obtain ⟨y, hy, y0, y1⟩ := idxL [2, 8] 2 8 o11 s10.lt v v0 (by simp; omega) (by
        intro x hx
        simp at hx
        omega)
      clear o11 s10
      go_wp2
      go_ret3
      exact ⟨_, _, _, rfl, by omega, by omega, by omega, by omega, by omega, by omega, s11.bel⟩
    · have e1' : (k == 1) = false := by simpa using e1
      clear e1
      by_cases e2 : (k == 2) = true
      · go_wp2_with fail
        refine (pick_st _ _ _ _ _ (s10.alloc _) (by decide) (by decide)).mono ?_
        rintro e w11 ⟨v, rfl, v0, v1, s11, o11⟩
        obtain ⟨y, hy, y0, y1⟩ := idxL [-1, 32] (-1) 32 o11 s10.lt v v0 (by simp; omega) (by
          intro x hx
          simp at hx
          omega)
        clear o11 s10
        go_wp2
        go_ret3
        exact ⟨_, _, _, rfl, by omega, by omega, by omega, by omega, by omega, by omega, s11.bel⟩
      · have e2' : (k == 2) = false := by simpa using e2
        clear e2
        go_wp2
        go_ret3
        exact ⟨_, _, _, rfl, by omega, by omega, by omega, by omega, by omega, by omega, s10.bel⟩
end Go.Proofs.Ytloegojbenjfdab
