import Derived.Test.YtafhpcgdlmkbeaeTAdd
import Derived.Test.YtafhpcgdlmkbeaeWDraw
namespace Go.Proofs.Ytafhpcgdlmkbeae
open Go.RowKit
set_option linter.unusedVariables false

/-- A draw goes on: but for the reader, which lies at block b, nothing that lay in the world in which it began has turned. -/
structure St2 (w0 w : World) (b N : Nat) : Prop where
  dr : Dr w b N
  kept : w0.grownBy w (some b)
  lt : b < w.heap.size
theorem grown_trans2 {a b c : World} {row : Option Nat} (h : a.grownBy b row) (k : b.grownBy c row) : a.grownBy c row :=
  ⟨k.os.trans h.os, k.tape.trans h.tape, k.output.trans h.output, Nat.le_trans h.size k.size, fun i hi hne => (k.block i (Nat.lt_of_lt_of_le hi h.size) hne).trans (h.block i hi hne)⟩
theorem grown_of_below {a b : World} (row : Option Nat) (h : Below a.heap.size a b) : a.grownBy b row := ⟨h.os, h.tape, h.output, h.size, fun i hi _ => h.block i hi⟩
theorem grown_of_only {a c : World} {b : Nat} (h : Only b a c) : a.grownBy c (some b) := ⟨h.os, h.tape, h.output, Nat.le_of_eq h.size.symm, fun i _ hne => h.block i (fun e => hne (by rw [e]))⟩
theorem St2.start {w : World} {b N : Nat} (h : Dr w b N) (hl : b < w.heap.size) : St2 w w b N := ⟨h, ⟨rfl, rfl, rfl, Nat.le_refl _, fun _ _ _ => rfl⟩, hl⟩
theorem St2.grow {w0 w w' : World} {b N : Nat} (h : St2 w0 w b N) (hb : Below w.heap.size w w') : St2 w0 w' b N :=
  ⟨h.dr.kept hb h.lt, grown_trans2 h.kept (grown_of_below _ hb), Nat.lt_of_lt_of_le h.lt hb.size⟩
theorem St2.alloc {w0 w : World} {b N : Nat} (h : St2 w0 w b N) (o : Obj) : St2 w0 (w.alloc o) b N := h.grow ((Below.refl _ _).alloc (Nat.le_refl _) _)
theorem St2.more2 {w0 w : World} {b N M : Nat} (h : St2 w0 w b N) (hM : N ≤ M) : St2 w0 w b M := by
  obtain ⟨⟨a, len, cap, pn, zs, c0, c1, f1, hp, hl, hz⟩, h2, h3⟩ := h
  exact ⟨⟨a, len, cap, pn, zs, c0, c1, f1, Nat.le_trans hp hM, hl, hz⟩, h2, h3⟩
theorem pick_st2 (b N : Nat) (n : Int) (w0 w : World) (h : St2 w0 w b N) (hN : N ≤ 1000000) (hn : 1 ≤ n) :
    Calls Try.prog 32 #[.pointer (some ⟨b, 0, none⟩), .int .i64 n] w fun e w' => ∃ v, e = .returned (.int .i64 v) ∧ 0 ≤ v ∧ v ≤ n - 1 ∧ St2 w0 w' b (N + 1) ∧ Only b w w' := by
  refine (pick_pos b N n w h.dr hN hn).mono ?_
  rintro e w' ⟨v, rfl, v0, v1, hd, ho⟩
  exact ⟨v, rfl, v0, v1, ⟨hd, grown_trans2 h.kept (grown_of_only ho), by rw [ho.size]; exact h.lt⟩, ho⟩

set_option maxRecDepth 100000 in
set_option maxHeartbeats 1000000 in
theorem l71Word_2 (b N : Nat) (w0 w : World) (hst : St2 w0 w b N) (hN : N ≤ 900000) :
    Calls Try.prog 57 #[.pointer (some ⟨b, 0, none⟩)] w fun e w' => ∃ t : ByteArray, e = .returned (.string t) ∧ t.size ≤ 20 ∧ St2 w0 w' b (N + 60) := by
  go_enter Try.func57, Try.ntmps57
  go_wp2_with fail
  refine (pick_st2 _ _ _ _ _ hst (by omega) (by decide)).mono ?_
  rintro e w1 ⟨v1, rfl, v10, v11, s1, _⟩
  clear hst
  go_wp2_with fail
  refine (pick_st2 _ _ _ _ _ s1 (by omega) (by decide)).mono ?_
  rintro e w2 ⟨v2, rfl, v20, v21, s2, _⟩
  clear s1
  have d0 : 0 ≤ v2 / 5 := by omega
  have d1 : v2 / 5 ≤ 1 := by omega
  go_wp2
  go_loopw [3, 4] (fun sv nv wr => ∃ (j m : Nat) (t : ByteArray), m + j ≤ 16 ∧ nv = .int .i64 m ∧ sv = .string t ∧ t.size ≤ j ∧ St2 w0 wr b (N + 2 + 3 * j)) (fun _ nv _ => (intOf nv).toNat)
  case atStart => exact ⟨0, (v1 + v2 / 5 * 8).toNat, ⟨#[]⟩, by omega, by congr 1; omega, rfl, by decide, s2⟩
  case round =>
    clear s2
    obtain ⟨j, m, t, hmj, rfl, rfl, ht, hs⟩ := hrel
    by_cases hm : 0 < m
    · have hm' : (0 : Int) < m := by omega
      go_wp2_with fail
      refine (pick_st2 _ _ _ _ _ hs (by omega) (by decide)).mono ?_
      rintro e w3 ⟨k, rfl, k0, k1, s3, _⟩
      go_wp2_with fail
      refine (pick_st2 _ _ _ _ _ s3 (by omega) (by decide)).mono ?_
      rintro e w4 ⟨q, rfl, q0, q1, s4, _⟩
      clear hs s3
      have hs1 : ∀ x, (strOfNums [x]).size = 1 := fun _ => rfl
      by_cases e0 : (q == 0) = true
      · go_wp2_with fail
        refine (pick_st2 _ _ _ _ _ s4 (by omega) (by decide)).mono ?_
        rintro e w5 ⟨k2, rfl, k20, k21, s5, _⟩
        obtain ⟨kn, rfl⟩ : ∃ kn : Nat, k2 = (kn : Int) := ⟨k2.toNat, by omega⟩
        have hq := WS_at kn (by show kn < 39; omega)
        obtain ⟨x, hx⟩ : ∃ x, WS.getD kn 0 = x := ⟨_, rfl⟩
        rw [hx] at hq
        have hxb := WS_bd x (by rw [← hx]; have : kn < WS.length := by rw [WS_length]; omega
                                simp [List.getD, this])
        obtain ⟨x0, x1⟩ := hxb
        clear hx s4
        go_wp2_with fail
        refine (l1Byte_any _ _ x0 x1).mono ?_
        rintro e w6 ⟨rfl, hb6⟩
        go_wp2
        go_roundw
        case rel => exact ⟨j + 1, m - 1, _, by omega, by congr 1; omega, rfl, by rw [ByteArray.size_append, hs1]; omega, (s5.grow hb6).more2 (by omega)⟩
        case measure => simp [intOf]; omega
      · have e0' : (q == 0) = false := by simpa using e0
        clear e0
        obtain ⟨kn, rfl⟩ : ∃ kn : Nat, k = (kn : Int) := ⟨k.toNat, by omega⟩
        have hq := WS_at kn (by show kn < 39; omega)
        obtain ⟨x, hx⟩ : ∃ x, WS.getD kn 0 = x := ⟨_, rfl⟩
        rw [hx] at hq
        have hxb := WS_bd x (by rw [← hx]; have : kn < WS.length := by rw [WS_length]; omega
                                simp [List.getD, this])
        obtain ⟨x0, x1⟩ := hxb
        clear hx
        go_wp2_with fail
        refine (l1Byte_any _ _ x0 x1).mono ?_
        rintro e w6 ⟨rfl, hb6⟩
        go_wp2
        go_roundw
        case rel => exact ⟨j + 1, m - 1, _, by omega, by congr 1; omega, rfl, by rw [ByteArray.size_append, hs1]; omega, (s4.grow hb6).more2 (by omega)⟩
        case measure => simp [intOf]; omega
    · have hm' : (m : Int) ≤ 0 := by omega
      go_wp2_with fail
      refine (pick_st2 _ _ _ _ _ hs (by omega) (by decide)).mono ?_
      rintro e w3 ⟨k, rfl, k0, k1, s3, _⟩
      clear hs
      by_cases e0 : (k == 0) = true
      · go_wp2
        go_ret
        exact ⟨_, rfl, by rw [ByteArray.size_append]; have : (⟨#[65]⟩ : ByteArray).size = 1 := rfl; omega, s3.more2 (by omega)⟩
      · have e0' : (k == 0) = false := by simpa using e0
        clear e0
        by_cases e1 : (k == 1) = true
        · go_wp2_with fail
          refine (pick_st2 _ _ _ _ _ s3 (by omega) (by decide)).mono ?_
          rintro e w4 ⟨q, rfl, q0, q1, s4, _⟩
          go_wp2_with fail
          refine (l6Many_e _ _ (by omega) (by omega)).mono ?_
          rintro e w5 ⟨t', rfl, ht', rfl⟩
          go_wp2
          go_ret
          exact ⟨_, rfl, ht', s4.more2 (by omega)⟩
        · have e1' : (k == 1) = false := by simpa using e1
          clear e1
          go_wp2
          go_ret
          exact ⟨_, rfl, by omega, s3.more2 (by omega)⟩


set_option maxRecDepth 100000 in
set_option maxHeartbeats 400000 in
theorem of_2 (b N g L cap B : Nat) (w0 w : World) (hst : St2 w0 w b N) (hN : N ≤ 900000) (hL : 1 ≤ L) (hL2 : L ≤ 100) (hg : g ≠ b) (hc : ∀ i, i < L → ∃ t : ByteArray, t.size ≤ B ∧ w.cell? ⟨g, i, none⟩ = some (.string t)) :
    Calls Try.prog 56 #[.pointer (some ⟨b, 0, none⟩), .slice (some ⟨g, 0, none⟩) L cap] w fun e w' => ∃ t : ByteArray, e = .returned (.string t) ∧ t.size ≤ B ∧ St2 w0 w' b (N + 1) := by
  have HC : Hid (∀ i, i < L → ∃ t : ByteArray, t.size ≤ B ∧ w.cell? ⟨g, i, none⟩ = some (.string t)) := hc
  clear hc
  go_enter Try.func56, Try.ntmps56
  go_wp2_with fail
  refine (pick_st2 _ _ _ _ _ hst (by omega) (by omega)).mono ?_
  rintro e w1 ⟨v, rfl, v0, v1, s1, o1⟩
  obtain ⟨kn, rfl⟩ : ∃ kn : Nat, v = (kn : Int) := ⟨v.toNat, by omega⟩
  obtain ⟨t, ht, hct⟩ := HC.out kn (by omega)
  have hcell : w1.cell? ⟨g, kn, none⟩ = some (.string t) := (o1.cell (p := ⟨g, kn, none⟩) hg).trans hct
  have hkl : (kn : Int) < L := by omega
  clear hct o1 hst
  go_wp2
  go_ret
  exact ⟨_, rfl, ht, s1⟩

theorem str_cells2 (w : World) (e : TypeId) (xs : List ByteArray) (B : Nat) (h : ∀ x ∈ xs, x.size ≤ B) : ∀ i, i < xs.length → ∃ t : ByteArray, t.size ≤ B ∧ (w.alloc (.cells (xs.map Value.string).toArray e)).cell? ⟨w.heap.size, i, none⟩ = some (.string t) := by
  intro i hi
  exact ⟨xs[i], h _ (List.getElem_mem hi), by simp [hi]⟩

end Go.Proofs.Ytafhpcgdlmkbeae
