import Derived.Test.YtbhoafiolalgaaaGreatPick
import Derived.Test.YtbhoafiolalgaaaGreatBA
import Derived.Test.YtbhoafiolalgaaaGreatBB
namespace Go.Proofs.YtbhoafiolalgaaaGreat
open Go.RowKit
set_option linter.unusedVariables false

/-- A draw goes on: of the world in which it began nothing has turned; the reader lies at block b. -/
structure St (w0 w : World) (b N : Nat) : Prop where
  dr : Dr w b N
  bel : Below b w0 w
  lt : b < w.heap.size
theorem St.alloc {w0 w : World} {b N : Nat} (h : St w0 w b N) (o : Obj) : St w0 (w.alloc o) b N :=
  ⟨h.dr.kept (Below.alloc (Below.refl w.heap.size w) (Nat.le_refl _) o) h.lt, h.bel.alloc (Nat.le_of_lt h.lt) o, by have := h.lt; simp; omega⟩
theorem St.grow {w0 w w' : World} {b N : Nat} (h : St w0 w b N) (hb : Below w.heap.size w w') : St w0 w' b N :=
  ⟨h.dr.kept hb h.lt, h.bel.trans (hb.mono (Nat.le_of_lt h.lt)), Nat.lt_of_lt_of_le h.lt hb.size⟩

theorem pick_st (b N : Nat) (n : Int) (w0 w : World) (h : St w0 w b N) (hN : N ≤ 1000000) (hn : 1 ≤ n) :
    Calls Tryz.prog 16 #[.pointer (some ⟨b, 0, none⟩), .int .i64 n] w fun e w' => ∃ v, e = .returned (.int .i64 v) ∧ 0 ≤ v ∧ v ≤ n - 1 ∧ St w0 w' b (N + 1) ∧ Only b w w' := by
  refine (pick_pos b N n w h.dr hN hn).mono ?_
  rintro e w' ⟨v, rfl, v0, v1, hd, ho⟩
  exact ⟨v, rfl, v0, v1, ⟨hd, ho.under h.bel (Nat.le_refl _), by rw [ho.size]; exact h.lt⟩, ho⟩

theorem open_st (a : Option Addr) (len cap : Nat) (zs : List Int) (w : World) (hr : Row w a len cap zs) :
    Calls Tryz.prog 12 #[.slice a len cap] w fun e w' => e = .returned (.pointer (some ⟨w.heap.size, 0, none⟩)) ∧ St w w' w.heap.size 0 := by
  refine (l6Open_any a len cap zs w hr).mono ?_
  rintro e w' ⟨rfl, hd, hb, hs⟩
  exact ⟨rfl, hd, hb, by omega⟩

/-- One of a list of numbers that was laid, behind a pick. -/
theorem idxL {w W : World} {b : Nat} {t : TypeId} (xs : List Int) (lo hi : Int) (ho : Only b (w.alloc (.cells (xs.map (Value.int .i64)).toArray t)) W) (hb : b < w.heap.size) (v : Int) (v0 : 0 ≤ v) (v1 : v < xs.length)
    (hx : ∀ x ∈ xs, lo ≤ x ∧ x ≤ hi) : ∃ y, W.cell? ⟨w.heap.size, v.toNat, none⟩ = some (.int .i64 y) ∧ lo ≤ y ∧ y ≤ hi := by
  have hi' : v.toNat < xs.length := by omega
  refine ⟨xs[v.toNat], ?_, hx _ (List.getElem_mem hi')⟩
  rw [ho.cell (p := ⟨w.heap.size, v.toNat, none⟩) (by show w.heap.size ≠ b; omega)]
  simp [hi']

end Go.Proofs.YtbhoafiolalgaaaGreat

namespace Go.Proofs.YtbhoafiolalgaaaGreat
open Go.RowKit
set_option linter.unusedVariables false

set_option maxRecDepth 100000 in
set_option maxHeartbeats 1000000 in
theorem l6Many_e (n : Int) (w : World) (h0 : 15 ≤ n) (h1 : n ≤ 18) :
    Calls Tryz.prog 35 #[.string ⟨#[101]⟩, .int .i64 n] w fun e w' => ∃ t : ByteArray, e = .returned (.string t) ∧ t.size ≤ 20 ∧ w' = w := by
  rcases (by omega : n = 15 ∨ n = 16 ∨ n = 17 ∨ n = 18) with rfl | rfl | rfl | rfl
  all_goals
    clear h0 h1
    go_enter Tryz.func35, Tryz.ntmps35
    go_wp2
    go_rounds 6
    go_ret
    exact ⟨_, rfl, by simp [ByteArray.size_append]; decide, rfl⟩

theorem St.more {w0 w : World} {b N M : Nat} (h : St w0 w b N) (hM : N ≤ M) : St w0 w b M := by
  obtain ⟨⟨a, len, cap, pn, zs, c0, c1, f1, hp, hl, hz⟩, h2, h3⟩ := h
  exact ⟨⟨a, len, cap, pn, zs, c0, c1, f1, Nat.le_trans hp hM, hl, hz⟩, h2, h3⟩

set_option maxRecDepth 100000 in
set_option maxHeartbeats 1000000 in
theorem l71Word_any (b N : Nat) (w0 w : World) (hst : St w0 w b N) (hN : N ≤ 900000) :
    Calls Tryz.prog 19 #[.pointer (some ⟨b, 0, none⟩)] w fun e w' => ∃ t : ByteArray, e = .returned (.string t) ∧ t.size ≤ 20 ∧ St w0 w' b (N + 60) := by
  go_enter Tryz.func19, Tryz.ntmps19
  go_wp2_with fail
  refine (pick_st _ _ _ _ _ hst (by omega) (by decide)).mono ?_
  rintro e w1 ⟨v1, rfl, v10, v11, s1, _⟩
  clear hst
  go_wp2_with fail
  refine (pick_st _ _ _ _ _ s1 (by omega) (by decide)).mono ?_
  rintro e w2 ⟨v2, rfl, v20, v21, s2, _⟩
  clear s1
  have d0 : 0 ≤ v2 / 5 := by omega
  have d1 : v2 / 5 ≤ 1 := by omega
  go_wp2
  go_loopw [3, 4] (fun sv nv wr => ∃ (j m : Nat) (t : ByteArray), m + j ≤ 16 ∧ nv = .int .i64 m ∧ sv = .string t ∧ t.size ≤ j ∧ St w0 wr b (N + 2 + 3 * j)) (fun _ nv _ => (intOf nv).toNat)
  case atStart => exact ⟨0, (v1 + v2 / 5 * 8).toNat, ⟨#[]⟩, by omega, by congr 1; omega, rfl, by decide, s2⟩
  case round =>
    clear s2
    obtain ⟨j, m, t, hmj, rfl, rfl, ht, hs⟩ := hrel
    by_cases hm : 0 < m
    · have hm' : (0 : Int) < m := by omega
      go_wp2_with fail
      refine (pick_st _ _ _ _ _ hs (by omega) (by decide)).mono ?_
      rintro e w3 ⟨k, rfl, k0, k1, s3, _⟩
      go_wp2_with fail
      refine (pick_st _ _ _ _ _ s3 (by omega) (by decide)).mono ?_
      rintro e w4 ⟨q, rfl, q0, q1, s4, _⟩
      clear hs s3
      have hs1 : ∀ x, (strOfNums [x]).size = 1 := fun _ => rfl
      by_cases e0 : (q == 0) = true
      · go_wp2_with fail
        refine (pick_st _ _ _ _ _ s4 (by omega) (by decide)).mono ?_
        rintro e w5 ⟨k2, rfl, k20, k21, s5, _⟩
        obtain ⟨kn, rfl⟩ : ∃ kn : Nat, k2 = (kn : Int) := ⟨k2.toNat, by omega⟩
        have hq := WS_at kn (by show kn < 39; omega)
        obtain ⟨x, hx⟩ : ∃ x, WS.getD kn 0 = x := ⟨_, rfl⟩
        rw [hx] at hq
        have hxb := WS_bd x (by rw [← hx]; have : kn < WS.length := by rw [WS_length]; omega
                                simp [List.getD, this])
        obtain ⟨x0, x1⟩ := hxb
        clear hx s4
        go_wp2_with fail
        refine (l1Byte_any _ _ x0 x1).mono ?_
        rintro e w6 ⟨rfl, hb6⟩
        go_wp2
        go_roundw
        case rel => exact ⟨j + 1, m - 1, _, by omega, by congr 1; omega, rfl, by rw [ByteArray.size_append, hs1]; omega, (s5.grow hb6).more (by omega)⟩
        case measure => simp [intOf]; omega
      · have e0' : (q == 0) = false := by simpa using e0
        clear e0
        obtain ⟨kn, rfl⟩ : ∃ kn : Nat, k = (kn : Int) := ⟨k.toNat, by omega⟩
        have hq := WS_at kn (by show kn < 39; omega)
        obtain ⟨x, hx⟩ : ∃ x, WS.getD kn 0 = x := ⟨_, rfl⟩
        rw [hx] at hq
        have hxb := WS_bd x (by rw [← hx]; have : kn < WS.length := by rw [WS_length]; omega
                                simp [List.getD, this])
        obtain ⟨x0, x1⟩ := hxb
        clear hx
        go_wp2_with fail
        refine (l1Byte_any _ _ x0 x1).mono ?_
        rintro e w6 ⟨rfl, hb6⟩
        go_wp2
        go_roundw
        case rel => exact ⟨j + 1, m - 1, _, by omega, by congr 1; omega, rfl, by rw [ByteArray.size_append, hs1]; omega, (s4.grow hb6).more (by omega)⟩
        case measure => simp [intOf]; omega
    · have hm' : (m : Int) ≤ 0 := by omega
      go_wp2_with fail
      refine (pick_st _ _ _ _ _ hs (by omega) (by decide)).mono ?_
      rintro e w3 ⟨k, rfl, k0, k1, s3, _⟩
      clear hs
      by_cases e0 : (k == 0) = true
      · go_wp2
        go_ret
        exact ⟨_, rfl, by rw [ByteArray.size_append]; have : (⟨#[65]⟩ : ByteArray).size = 1 := rfl; omega, s3.more (by omega)⟩
      · have e0' : (k == 0) = false := by simpa using e0
        clear e0
        by_cases e1 : (k == 1) = true
        · go_wp2_with fail
          refine (pick_st _ _ _ _ _ s3 (by omega) (by decide)).mono ?_
          rintro e w4 ⟨q, rfl, q0, q1, s4, _⟩
          go_wp2_with fail
          refine (l6Many_e _ _ (by omega) (by omega)).mono ?_
          rintro e w5 ⟨t', rfl, ht', rfl⟩
          go_wp2
          go_ret
          exact ⟨_, rfl, ht', s4.more (by omega)⟩
        · have e1' : (k == 1) = false := by simpa using e1
          clear e1
          go_wp2
          go_ret
          exact ⟨_, rfl, by omega, s3.more (by omega)⟩

end Go.Proofs.YtbhoafiolalgaaaGreat

namespace Go.Proofs.YtbhoafiolalgaaaGreat
open Go.RowKit
set_option linter.unusedVariables false

/-- A draw goes on: but for the reader, which lies at block b, nothing that lay in the world in which it began has turned. -/
structure St2 (w0 w : World) (b N : Nat) : Prop where
  dr : Dr w b N
  kept : w0.grownBy w (some b)
  lt : b < w.heap.size
theorem grown_trans2 {a b c : World} {row : Option Nat} (h : a.grownBy b row) (k : b.grownBy c row) : a.grownBy c row :=
  ⟨k.os.trans h.os, k.tape.trans h.tape, k.output.trans h.output, Nat.le_trans h.size k.size, fun i hi hne => (k.block i (Nat.lt_of_lt_of_le hi h.size) hne).trans (h.block i hi hne)⟩
theorem grown_of_below {a b : World} (row : Option Nat) (h : Below a.heap.size a b) : a.grownBy b row := ⟨h.os, h.tape, h.output, h.size, fun i hi _ => h.block i hi⟩
theorem grown_of_only {a c : World} {b : Nat} (h : Only b a c) : a.grownBy c (some b) := ⟨h.os, h.tape, h.output, Nat.le_of_eq h.size.symm, fun i _ hne => h.block i (fun e => hne (by rw [e]))⟩
theorem St2.start {w : World} {b N : Nat} (h : Dr w b N) (hl : b < w.heap.size) : St2 w w b N := ⟨h, ⟨rfl, rfl, rfl, Nat.le_refl _, fun _ _ _ => rfl⟩, hl⟩
theorem St2.grow {w0 w w' : World} {b N : Nat} (h : St2 w0 w b N) (hb : Below w.heap.size w w') : St2 w0 w' b N :=
  ⟨h.dr.kept hb h.lt, grown_trans2 h.kept (grown_of_below _ hb), Nat.lt_of_lt_of_le h.lt hb.size⟩
theorem St2.alloc {w0 w : World} {b N : Nat} (h : St2 w0 w b N) (o : Obj) : St2 w0 (w.alloc o) b N := h.grow ((Below.refl _ _).alloc (Nat.le_refl _) _)
theorem St2.more2 {w0 w : World} {b N M : Nat} (h : St2 w0 w b N) (hM : N ≤ M) : St2 w0 w b M := by
  obtain ⟨⟨a, len, cap, pn, zs, c0, c1, f1, hp, hl, hz⟩, h2, h3⟩ := h
  exact ⟨⟨a, len, cap, pn, zs, c0, c1, f1, Nat.le_trans hp hM, hl, hz⟩, h2, h3⟩
theorem pick_st2 (b N : Nat) (n : Int) (w0 w : World) (h : St2 w0 w b N) (hN : N ≤ 1000000) (hn : 1 ≤ n) :
    Calls Tryz.prog 16 #[.pointer (some ⟨b, 0, none⟩), .int .i64 n] w fun e w' => ∃ v, e = .returned (.int .i64 v) ∧ 0 ≤ v ∧ v ≤ n - 1 ∧ St2 w0 w' b (N + 1) ∧ Only b w w' := by
  refine (pick_pos b N n w h.dr hN hn).mono ?_
  rintro e w' ⟨v, rfl, v0, v1, hd, ho⟩
  exact ⟨v, rfl, v0, v1, ⟨hd, grown_trans2 h.kept (grown_of_only ho), by rw [ho.size]; exact h.lt⟩, ho⟩

set_option maxRecDepth 100000 in
set_option maxHeartbeats 1000000 in
theorem l71Word_2 (b N : Nat) (w0 w : World) (hst : St2 w0 w b N) (hN : N ≤ 900000) :
    Calls Tryz.prog 19 #[.pointer (some ⟨b, 0, none⟩)] w fun e w' => ∃ t : ByteArray, e = .returned (.string t) ∧ t.size ≤ 20 ∧ St2 w0 w' b (N + 60) := by
  go_enter Tryz.func19, Tryz.ntmps19
  go_wp2_with fail
  refine (pick_st2 _ _ _ _ _ hst (by omega) (by decide)).mono ?_
  rintro e w1 ⟨v1, rfl, v10, v11, s1, _⟩
  clear hst
  go_wp2_with fail
  refine (pick_st2 _ _ _ _ _ s1 (by omega) (by decide)).mono ?_
  rintro e w2 ⟨v2, rfl, v20, v21, s2, _⟩
  clear s1
  have d0 : 0 ≤ v2 / 5 := by omega
  have d1 : v2 / 5 ≤ 1 := by omega
  go_wp2
  go_loopw [3, 4] (fun sv nv wr => ∃ (j m : Nat) (t : ByteArray), m + j ≤ 16 ∧ nv = .int .i64 m ∧ sv = .string t ∧ t.size ≤ j ∧ St2 w0 wr b (N + 2 + 3 * j)) (fun _ nv _ => (intOf nv).toNat)
  case atStart => exact ⟨0, (v1 + v2 / 5 * 8).toNat, ⟨#[]⟩, by omega, by congr 1; omega, rfl, by decide, s2⟩
  case round =>
    clear s2
    obtain ⟨j, m, t, hmj, rfl, rfl, ht, hs⟩ := hrel
    by_cases hm : 0 < m
    · have hm' : (0 : Int) < m := by omega
      go_wp2_with fail
      refine (pick_st2 _ _ _ _ _ hs (by omega) (by decide)).mono ?_
      rintro e w3 ⟨k, rfl, k0, k1, s3, _⟩
      go_wp2_with fail
      refine (pick_st2 _ _ _ _ _ s3 (by omega) (by decide)).mono ?_
      rintro e w4 ⟨q, rfl, q0, q1, s4, _⟩
      clear hs s3
      have hs1 : ∀ x, (strOfNums [x]).size = 1 := fun _ => rfl
      by_cases e0 : (q == 0) = true
      · go_wp2_with fail
        refine (pick_st2 _ _ _ _ _ s4 (by omega) (by decide)).mono ?_
        rintro e w5 ⟨k2, rfl, k20, k21, s5, _⟩
        obtain ⟨kn, rfl⟩ : ∃ kn : Nat, k2 = (kn : Int) := ⟨k2.toNat, by omega⟩
        have hq := WS_at kn (by show kn < 39; omega)
        obtain ⟨x, hx⟩ : ∃ x, WS.getD kn 0 = x := ⟨_, rfl⟩
        rw [hx] at hq
        have hxb := WS_bd x (by rw [← hx]; have : kn < WS.length := by rw [WS_length]; omega
                                simp [List.getD, this])
        obtain ⟨x0, x1⟩ := hxb
        clear hx s4
        go_wp2_with fail
        refine (l1Byte_any _ _ x0 x1).mono ?_
        rintro e w6 ⟨rfl, hb6⟩
        go_wp2
        go_roundw
        case rel => exact ⟨j + 1, m - 1, _, by omega, by congr 1; omega, rfl, by rw [ByteArray.size_append, hs1]; omega, (s5.grow hb6).more2 (by omega)⟩
        case measure => simp [intOf]; omega
      · have e0' : (q == 0) = false := by simpa using e0
        clear e0
        obtain ⟨kn, rfl⟩ : ∃ kn : Nat, k = (kn : Int) := ⟨k.toNat, by omega⟩
        have hq := WS_at kn (by show kn < 39; omega)
        obtain ⟨x, hx⟩ : ∃ x, WS.getD kn 0 = x := ⟨_, rfl⟩
        rw [hx] at hq
        have hxb := WS_bd x (by rw [← hx]; have : kn < WS.length := by rw [WS_length]; omega
                                simp [List.getD, this])
        obtain ⟨x0, x1⟩ := hxb
        clear hx
        go_wp2_with fail
        refine (l1Byte_any _ _ x0 x1).mono ?_
        rintro e w6 ⟨rfl, hb6⟩
        go_wp2
        go_roundw
        case rel => exact ⟨j + 1, m - 1, _, by omega, by congr 1; omega, rfl, by rw [ByteArray.size_append, hs1]; omega, (s4.grow hb6).more2 (by omega)⟩
        case measure => simp [intOf]; omega
    · have hm' : (m : Int) ≤ 0 := by omega
      go_wp2_with fail
      refine (pick_st2 _ _ _ _ _ hs (by omega) (by decide)).mono ?_
      rintro e w3 ⟨k, rfl, k0, k1, s3, _⟩
      clear hs
      by_cases e0 : (k == 0) = true
      · go_wp2
        go_ret
        exact ⟨_, rfl, by rw [ByteArray.size_append]; have : (⟨#[65]⟩ : ByteArray).size = 1 := rfl; omega, s3.more2 (by omega)⟩
      · have e0' : (k == 0) = false := by simpa using e0
        clear e0
        by_cases e1 : (k == 1) = true
        · go_wp2_with fail
          refine (pick_st2 _ _ _ _ _ s3 (by omega) (by decide)).mono ?_
          rintro e w4 ⟨q, rfl, q0, q1, s4, _⟩
          go_wp2_with fail
          refine (l6Many_e _ _ (by omega) (by omega)).mono ?_
          rintro e w5 ⟨t', rfl, ht', rfl⟩
          go_wp2
          go_ret
          exact ⟨_, rfl, ht', s4.more2 (by omega)⟩
        · have e1' : (k == 1) = false := by simpa using e1
          clear e1
          go_wp2
          go_ret
          exact ⟨_, rfl, by omega, s3.more2 (by omega)⟩


set_option maxRecDepth 100000 in
set_option maxHeartbeats 400000 in
theorem of_2 (b N g L cap B : Nat) (w0 w : World) (hst : St2 w0 w b N) (hN : N ≤ 900000) (hL : 1 ≤ L) (hL2 : L ≤ 100) (hg : g ≠ b) (hc : ∀ i, i < L → ∃ t : ByteArray, t.size ≤ B ∧ w.cell? ⟨g, i, none⟩ = some (.string t)) :
    Calls Tryz.prog 50 #[.pointer (some ⟨b, 0, none⟩), .slice (some ⟨g, 0, none⟩) L cap] w fun e w' => ∃ t : ByteArray, e = .returned (.string t) ∧ t.size ≤ B ∧ St2 w0 w' b (N + 1) := by
  have HC : Hid (∀ i, i < L → ∃ t : ByteArray, t.size ≤ B ∧ w.cell? ⟨g, i, none⟩ = some (.string t)) := hc
  clear hc
  go_enter Tryz.func50, Tryz.ntmps50
  go_wp2_with fail
  refine (pick_st2 _ _ _ _ _ hst (by omega) (by omega)).mono ?_
  rintro e w1 ⟨v, rfl, v0, v1, s1, o1⟩
  obtain ⟨kn, rfl⟩ : ∃ kn : Nat, v = (kn : Int) := ⟨v.toNat, by omega⟩
  obtain ⟨t, ht, hct⟩ := HC.out kn (by omega)
  have hcell : w1.cell? ⟨g, kn, none⟩ = some (.string t) := (o1.cell (p := ⟨g, kn, none⟩) hg).trans hct
  have hkl : (kn : Int) < L := by omega
  clear hct o1 hst
  go_wp2
  go_ret
  exact ⟨_, rfl, ht, s1⟩

theorem str_cells2 (w : World) (e : TypeId) (xs : List ByteArray) (B : Nat) (h : ∀ x ∈ xs, x.size ≤ B) : ∀ i, i < xs.length → ∃ t : ByteArray, t.size ≤ B ∧ (w.alloc (.cells (xs.map Value.string).toArray e)).cell? ⟨w.heap.size, i, none⟩ = some (.string t) := by
  intro i hi
  exact ⟨xs[i], h _ (List.getElem_mem hi), by simp [hi]⟩

end Go.Proofs.YtbhoafiolalgaaaGreat

namespace Go.Proofs.YtbhoafiolalgaaaGreat
open Go.RowKit
set_option linter.unusedVariables false

theorem St2.step {w0 w w' : World} {b N M : Nat} (h : St2 w0 w b N) (k : St2 w w' b M) : St2 w0 w' b M := ⟨k.dr, grown_trans2 h.kept k.kept, k.lt⟩
theorem St2.self {w0 w : World} {b N : Nat} (h : St2 w0 w b N) : St2 w w b N := St2.start h.dr h.lt
theorem St2.blk {w w' : World} {b N B : Nat} {o : Obj} (h : St2 w w' b N) (hb : w.heap[B]? = some o) (hne : B ≠ b) : w'.heap[B]? = some o :=
  (h.kept.block B (Array.getElem?_eq_some_iff.1 hb).1 (fun e => hne (by injection e))).trans hb

theorem St2.set {w0 w : World} {b N : Nat} (h : St2 w0 w b N) (p : Addr) (v : Value) (hp : w0.heap.size ≤ p.block) (hb : b < p.block) : St2 w0 (w.setCell p v) b N := by
  have hg : w.grownBy (w.setCell p v) (some p.block) := ⟨rfl, rfl, rfl, by simp [World.setCell], fun k _ hk => Below.heap_setCell _ _ _ k (fun e => hk (by rw [e]))⟩
  refine ⟨?_, ⟨h.kept.os, h.kept.tape, h.kept.output, Nat.le_trans h.kept.size hg.size, fun k hk hne => (hg.block k (Nat.lt_of_lt_of_le hk h.kept.size) (fun e => by injection e with e; omega)).trans (h.kept.block k hk hne)⟩, Nat.lt_of_lt_of_le h.lt hg.size⟩
  exact h.dr.kept ((Below.refl (b + 1) w).grown hg (by have := h.lt; omega) (fun k e => by injection e with e; omega)) (Nat.lt_succ_self b)
theorem St2.setRow {w0 w : World} {b N : Nat} (h : St2 w0 w b N) (g : Nat) (cs : Array Value) (hp : w0.heap.size ≤ g) (hb : b < g) : St2 w0 (w.setRow g cs) b N := by
  have hg := grown_setRowT w g cs
  refine ⟨?_, ⟨h.kept.os, h.kept.tape, h.kept.output, Nat.le_trans h.kept.size hg.size, fun k hk hne => (hg.block k (Nat.lt_of_lt_of_le hk h.kept.size) (fun e => by injection e with e; omega)).trans (h.kept.block k hk hne)⟩, Nat.lt_of_lt_of_le h.lt hg.size⟩
  exact h.dr.kept ((Below.refl (b + 1) w).grown hg (by have := h.lt; omega) (fun k e => by injection e with e; omega)) (Nat.lt_succ_self b)
theorem set3_heapT {W : World} {B : Nat} {a b c : Value} {t : TypeId} (o : Nat) (x : Value) (h : W.heap[B]? = some (.cells #[a, b, c] t (0, 0))) : (W.setCell ⟨B, o, none⟩ x).heap[B]? = some (.cells (#[a, b, c].setIfInBounds o x) t (0, 0)) := by
  obtain ⟨hlt, hk⟩ := Array.getElem?_eq_some_iff.1 h
  show (W.heap.modify B _)[B]? = _
  rw [Array.getElem?_eq_getElem (by rw [Array.size_modify]; exact hlt), Array.getElem_modify_self, hk]
  rfl
theorem frz3 {W : World} {B : Nat} {cs : Array Value} {t : TypeId} (o : Nat) (h : W.heap[B]? = some (.cells cs t (0, 0))) : W.frozen? ⟨B, o, none⟩ = false := by simp [World.frozen?, h]

set_option maxRecDepth 100000 in
set_option maxHeartbeats 2000000 in
theorem l71Field_any (b N : Nat) (w0 w : World) (hst : St2 w0 w b N) (hN : N ≤ 800000) :
    Calls Tryz.prog 28 #[.pointer (some ⟨b, 0, none⟩)] w fun e w' => ∃ f : Fd, e = .returned f.val ∧ f.n.size ≤ 20 ∧ f.v.size ≤ 20 ∧ St2 w0 w' b (N + 70) := by
  have hlt := hst.lt
  have hne : w.heap.size ≠ b := by omega
  have HST : Hid (St2 w0 w b N) := hst
  go_enter Tryz.func28, Tryz.ntmps28
  go_wp2_with fail
  have hR : (w.alloc (.cells #[.string ⟨#[]⟩, .string ⟨#[]⟩, .bool false] 52)).heap[w.heap.size]? = some (.cells #[.string ⟨#[]⟩, .string ⟨#[]⟩, .bool false] 52 (0, 0)) := heap_alloc_last w _
  have hc8 := str_cells2 (w.alloc (.cells #[.string ⟨#[]⟩, .string ⟨#[]⟩, .bool false] 52)) 9 [⟨#[58, 112, 97, 116, 104]⟩, ⟨#[58, 115, 116, 97, 116, 117, 115]⟩, ⟨#[107, 105, 110, 100]⟩, ⟨#[115, 105, 122, 101]⟩, ⟨#[116, 101]⟩, ⟨#[97]⟩, ⟨#[98]⟩, ⟨#[107, 101, 121]⟩] 7 (by decide)
  rw [World.size_alloc] at hc8
  have s1 := (hst.alloc (.cells #[.string ⟨#[]⟩, .string ⟨#[]⟩, .bool false] 52)).alloc (.cells (([⟨#[58, 112, 97, 116, 104]⟩, ⟨#[58, 115, 116, 97, 116, 117, 115]⟩, ⟨#[107, 105, 110, 100]⟩, ⟨#[115, 105, 122, 101]⟩, ⟨#[116, 101]⟩, ⟨#[97]⟩, ⟨#[98]⟩, ⟨#[107, 101, 121]⟩] : List ByteArray).map Value.string).toArray 9)
  refine (of_2 b N (w.heap.size + 1) 8 8 7 _ _ s1.self (by omega) (by decide) (by decide) (by omega) hc8).mono ?_
  rintro e w2 ⟨t1, rfl, ht1, k2⟩
  have hR2 := k2.blk (blkT hR _) hne
  have s2 := s1.step k2
  have hs2 : w.heap.size < w2.heap.size := (Array.getElem?_eq_some_iff.1 hR2).1
  clear hc8 s1 k2 hR
  go_wp2_with fail
  have hc9 := str_cells2 w2 9 [⟨#[]⟩, ⟨#[48]⟩, ⟨#[49, 50]⟩, ⟨#[116, 101, 120, 116]⟩, ⟨#[116, 114, 97, 105, 108, 101, 114, 115]⟩, ⟨#[47, 101, 99, 104, 111]⟩, ⟨#[120]⟩, ⟨#[121, 49]⟩, ⟨#[97, 98, 99]⟩] 8 (by decide)
  have s2' := s2.alloc (.cells (([⟨#[]⟩, ⟨#[48]⟩, ⟨#[49, 50]⟩, ⟨#[116, 101, 120, 116]⟩, ⟨#[116, 114, 97, 105, 108, 101, 114, 115]⟩, ⟨#[47, 101, 99, 104, 111]⟩, ⟨#[120]⟩, ⟨#[121, 49]⟩, ⟨#[97, 98, 99]⟩] : List ByteArray).map Value.string).toArray 9)
  refine (of_2 b (N + 1) w2.heap.size 9 9 8 _ _ s2'.self (by omega) (by decide) (by decide) (by omega) hc9).mono ?_
  rintro e w3 ⟨t2, rfl, ht2, k3⟩
  have hR3 := k3.blk (blkT hR2 _) hne
  have s3 := s2'.step k3
  have hs3 : w.heap.size < w3.heap.size := (Array.getElem?_eq_some_iff.1 hR3).1
  clear hc9 s2 s2' k3 hR2 hs2
  go_wp2_with fail
  have s4' := s3.alloc (.cells #[.string t1, .string t2, .bool false] 52)
  have hF3 : (w3.alloc (.cells #[.string t1, .string t2, .bool false] 52)).heap[w3.heap.size]? = some (.cells #[.string t1, .string t2, .bool false] 52 (0, 0)) := heap_alloc_last w3 _
  refine (pick_st2 b (N + 1 + 1) 8 _ _ s4'.self (by omega) (by decide)).mono ?_
  rintro e w4 ⟨v4, rfl, v40, v41, k4, _⟩
  have hR4 := k4.blk (blkT hR3 _) hne
  have hF4 := k4.blk hF3 (by omega)
  have s4 := s4'.step k4
  clear s4' k4 hF3 hR3 s3
  obtain ⟨F, hF⟩ : ∃ F, w3.heap.size = F := ⟨_, rfl⟩
  rw [hF] at hF4 hs3 ⊢
  have hFb : b < F := by omega
  have hFw : w0.heap.size ≤ F := by have := HST.out.kept.size; omega
  have hFn : F ≠ w.heap.size := by omega
  obtain ⟨q, hq⟩ : ∃ q, (v4 == 0) = q := ⟨_, rfl⟩
  have f2 := frz3 2 hF4
  have c2 := cell_of_row _ _ 2 _ _ _ hF4
  have hF5 := set3_heapT 2 (.bool q) hF4
  have hR5 : (w4.setCell ⟨F, 2, none⟩ (.bool q)).heap[w.heap.size]? = _ := (Below.heap_setCell w4 ⟨F, 2, none⟩ (.bool q) w.heap.size (fun e => hFn e.symm)).trans hR4
  have s5 := s4.set ⟨F, 2, none⟩ (.bool q) hFw hFb
  clear hF
  go_wp2_with fail
  refine (pick_st2 b (N + 1 + 1 + 1) 24 _ _ s5.self (by omega) (by decide)).mono ?_
  rintro e w6 ⟨v6, rfl, v60, v61, k6, _⟩
  have hR6 := k6.blk hR5 hne
  have hF6 := k6.blk hF5 (by omega)
  have s6 := s5.step k6
  clear hR5 hF5 s5 k6 hR4 hF4 s4 f2 c2
  have hs6 : F < w6.heap.size := (Array.getElem?_eq_some_iff.1 hF6).1
  by_cases e0 : (v6 == 0) = true
  · go_wp2_with fail
    have hc3 := str_cells2 w6 9 [⟨#[]⟩, ⟨#[65]⟩, ⟨#[97, 97, 97, 97, 97, 97, 97, 97, 97, 97, 97, 97, 97, 97, 97, 97, 97]⟩] 17 (by decide)
    have s6' := s6.alloc (.cells (([⟨#[]⟩, ⟨#[65]⟩, ⟨#[97, 97, 97, 97, 97, 97, 97, 97, 97, 97, 97, 97, 97, 97, 97, 97, 97]⟩] : List ByteArray).map Value.string).toArray 9)
    refine (of_2 b (N + 1 + 1 + 1 + 1) w6.heap.size 3 3 17 _ _ s6'.self (by omega) (by decide) (by decide) (by omega) hc3).mono ?_
    rintro e w7 ⟨t3, rfl, ht3, k7⟩
    have hR7 := k7.blk (blkT hR6 _) hne
    have hF7 := k7.blk (blkT hF6 _) (by omega)
    have s7 := s6'.step k7
    have f0 := frz3 0 hF7
    have c0 := cell_of_row _ _ 0 _ _ _ hF7
    have hF8 := set3_heapT 0 (.string t3) hF7
    have hR8 := (Below.heap_setCell w7 ⟨F, 0, none⟩ (.string t3) w.heap.size (fun e => hFn e.symm)).trans hR7
    have s8 := s7.set ⟨F, 0, none⟩ (.string t3) hFw hFb
    have y0 := cell_of_row _ _ 0 _ _ _ hF8
    have y1 := cell_of_row _ _ 1 _ _ _ hF8
    have y2 := cell_of_row _ _ 2 _ _ _ hF8
    simp at c0 y0 y1 y2
    clear hc3 s6' k7 hF7 hR7 s7 hR6 hF6 s6
    go_wp2_with (refine wpList_store_row rfl 52 _ _ rfl w.heap.size #[.string t3, .string t2, .bool q] rfl rfl 52 _ hR8 infoF3 rfl (by simp [Value.oneCell']) ?_)
    exact bodyPost_ret (results_cell_row rfl _ _ w.heap.size 52 #[.string t3, .string t2, .bool q] (0, 0) _ rfl (setRow_heap _ _ _ _ _ _ hR8) Tryz.underlying52 rfl infoF3) rfl ⟨⟨t3, t2, q⟩, rfl, by show t3.size ≤ 20; omega, by show t2.size ≤ 20; omega, (s8.setRow _ _ HST.out.kept.size hlt).more2 (by omega)⟩
  · have e0' : (v6 == 0) = false := by simpa using e0
    clear e0
    by_cases e1 : (v6 == 1) = true
    · go_wp2_with fail
      refine (l71Word_2 b (N + 1 + 1 + 1 + 1) _ _ s6.self (by omega)).mono ?_
      rintro e w7 ⟨t3, rfl, ht3, k7⟩
      have hR7 := k7.blk hR6 hne
      have hF7 := k7.blk hF6 (by omega)
      have s7 := s6.step k7
      have f0 := frz3 1 hF7
      have c0 := cell_of_row _ _ 1 _ _ _ hF7
      have hF8 := set3_heapT 1 (.string t3) hF7
      have hR8 := (Below.heap_setCell w7 ⟨F, 1, none⟩ (.string t3) w.heap.size (fun e => hFn e.symm)).trans hR7
      have s8 := s7.set ⟨F, 1, none⟩ (.string t3) hFw hFb
      have y0 := cell_of_row _ _ 0 _ _ _ hF8
      have y1 := cell_of_row _ _ 1 _ _ _ hF8
      have y2 := cell_of_row _ _ 2 _ _ _ hF8
      simp at c0 y0 y1 y2
      clear k7 hF7 hR7 s7 hR6 hF6 s6
      go_wp2_with (refine wpList_store_row rfl 52 _ _ rfl w.heap.size #[.string t1, .string t3, .bool q] rfl rfl 52 _ hR8 infoF3 rfl (by simp [Value.oneCell']) ?_)
      exact bodyPost_ret (results_cell_row rfl _ _ w.heap.size 52 #[.string t1, .string t3, .bool q] (0, 0) _ rfl (setRow_heap _ _ _ _ _ _ hR8) Tryz.underlying52 rfl infoF3) rfl ⟨⟨t1, t3, q⟩, rfl, by show t1.size ≤ 20; omega, by show t3.size ≤ 20; omega, (s8.setRow _ _ HST.out.kept.size hlt).more2 (by omega)⟩
    · have e1' : (v6 == 1) = false := by simpa using e1
      clear e1
      have y0 := cell_of_row _ _ 0 _ _ _ hF6
      have y1 := cell_of_row _ _ 1 _ _ _ hF6
      have y2 := cell_of_row _ _ 2 _ _ _ hF6
      simp at y0 y1 y2
      go_wp2_with (refine wpList_store_row rfl 52 _ _ rfl w.heap.size #[.string t1, .string t2, .bool q] rfl rfl 52 _ hR6 infoF3 rfl (by simp [Value.oneCell']) ?_)
      exact bodyPost_ret (results_cell_row rfl _ _ w.heap.size 52 #[.string t1, .string t2, .bool q] (0, 0) _ rfl (setRow_heap _ _ _ _ _ _ hR6) Tryz.underlying52 rfl infoF3) rfl ⟨⟨t1, t2, q⟩, rfl, by show t1.size ≤ 20; omega, by show t2.size ≤ 20; omega, (s6.setRow _ _ HST.out.kept.size hlt).more2 (by omega)⟩
end Go.Proofs.YtbhoafiolalgaaaGreat
