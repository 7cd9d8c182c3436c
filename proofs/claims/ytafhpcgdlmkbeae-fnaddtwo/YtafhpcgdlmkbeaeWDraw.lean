import Derived.Test.YtafhpcgdlmkbeaeDraw0
import Derived.Test.YtafhpcgdlmkbeaeWKit
import Derived.Test.YtafhpcgdlmkbeaeL1
namespace Go.Proofs.Ytafhpcgdlmkbeae
open Go.RowKit
set_option linter.unusedVariables false

set_option maxRecDepth 100000 in
set_option maxHeartbeats 1000000 in
theorem l6Many_e (n : Int) (w : World) (h0 : 15 ≤ n) (h1 : n ≤ 18) :
    Calls Try.prog 65 #[.string ⟨#[101]⟩, .int .i64 n] w fun e w' => ∃ t : ByteArray, e = .returned (.string t) ∧ t.size ≤ 20 ∧ w' = w := by
  rcases (by omega : n = 15 ∨ n = 16 ∨ n = 17 ∨ n = 18) with rfl | rfl | rfl | rfl
  all_goals
    clear h0 h1
    go_enter Try.func65, Try.ntmps65
    go_wp2
    go_rounds 6
    go_ret
    exact ⟨_, rfl, by simp [ByteArray.size_append]; decide, rfl⟩

theorem St.more {w0 w : World} {b N M : Nat} (h : St w0 w b N) (hM : N ≤ M) : St w0 w b M := by
  obtain ⟨⟨a, len, cap, pn, zs, c0, c1, f1, hp, hl, hz⟩, h2, h3⟩ := h
  exact ⟨⟨a, len, cap, pn, zs, c0, c1, f1, Nat.le_trans hp hM, hl, hz⟩, h2, h3⟩

set_option maxRecDepth 100000 in
set_option maxHeartbeats 1000000 in
theorem l71Word_any (b N : Nat) (w0 w : World) (hst : St w0 w b N) (hN : N ≤ 900000) :
    Calls Try.prog 57 #[.pointer (some ⟨b, 0, none⟩)] w fun e w' => ∃ t : ByteArray, e = .returned (.string t) ∧ t.size ≤ 20 ∧ St w0 w' b (N + 60) := by
  go_enter Try.func57, Try.ntmps57
  go_wp2_with fail
  refine (pick_st _ _ _ _ _ hst (by omega) (by decide)).mono ?_
  rintro e w1 ⟨v1, rfl, v10, v11, s1, _⟩
  clear hst
  go_wp2_with fail
  refine (pick_st _ _ _ _ _ s1 (by omega) (by decide)).mono ?_
  rintro e w2 ⟨v2, rfl, v20, v21, s2, _⟩
  clear s1
  have d0 : 0 ≤ v2 / 5 := by omega
  have d1 : v2 / 5 ≤ 1 := by omega
  go_wp2
  go_loopw [3, 4] (fun sv nv wr => ∃ (j m : Nat) (t : ByteArray), m + j ≤ 16 ∧ nv = .int .i64 m ∧ sv = .string t ∧ t.size ≤ j ∧ St w0 wr b (N + 2 + 3 * j)) (fun _ nv _ => (intOf nv).toNat)
  case atStart => exact ⟨0, (v1 + v2 / 5 * 8).toNat, ⟨#[]⟩, by omega, by congr 1; omega, rfl, by decide, s2⟩
  case round =>
    clear s2
    obtain ⟨j, m, t, hmj, rfl, rfl, ht, hs⟩ := hrel
    by_cases hm : 0 < m
    · have hm' : (0 : Int) < m := by omega
      go_wp2_with fail
      refine (pick_st _ _ _ _ _ hs (by omega) (by decide)).mono ?_
      rintro e w3 ⟨k, rfl, k0, k1, s3, _⟩
      go_wp2_with fail
      refine (pick_st _ _ _ _ _ s3 (by omega) (by decide)).mono ?_
      rintro e w4 ⟨q, rfl, q0, q1, s4, _⟩
      clear hs s3
      have hs1 : ∀ x, (strOfNums [x]).size = 1 := fun _ => rfl
      by_cases e0 : (q == 0) = true
      · go_wp2_with fail
        refine (pick_st _ _ _ _ _ s4 (by omega) (by decide)).mono ?_
        rintro e w5 ⟨k2, rfl, k20, k21, s5, _⟩
        obtain ⟨kn, rfl⟩ : ∃ kn : Nat, k2 = (kn : Int) := ⟨k2.toNat, by omega⟩
        have hq := WS_at kn (by show kn < 39; omega)
        obtain ⟨x, hx⟩ : ∃ x, WS.getD kn 0 = x := ⟨_, rfl⟩
        rw [hx] at hq
        have hxb := WS_bd x (by rw [← hx]; have : kn < WS.length := by rw [WS_length]; omega
                                simp [List.getD, this])
        obtain ⟨x0, x1⟩ := hxb
        clear hx s4
        go_wp2_with fail
        refine (l1Byte_any _ _ x0 x1).mono ?_
        rintro e w6 ⟨rfl, hb6⟩
        go_wp2
        go_roundw
        case rel => exact ⟨j + 1, m - 1, _, by omega, by congr 1; omega, rfl, by rw [ByteArray.size_append, hs1]; omega, (s5.grow hb6).more (by omega)⟩
        case measure => simp [intOf]; omega
      · have e0' : (q == 0) = false := by simpa using e0
        clear e0
        obtain ⟨kn, rfl⟩ : ∃ kn : Nat, k = (kn : Int) := ⟨k.toNat, by omega⟩
        have hq := WS_at kn (by show kn < 39; omega)
        obtain ⟨x, hx⟩ : ∃ x, WS.getD kn 0 = x := ⟨_, rfl⟩
        rw [hx] at hq
        have hxb := WS_bd x (by rw [← hx]; have : kn < WS.length := by rw [WS_length]; omega
                                simp [List.getD, this])
        obtain ⟨x0, x1⟩ := hxb
        clear hx
        go_wp2_with fail
        refine (l1Byte_any _ _ x0 x1).mono ?_
        rintro e w6 ⟨rfl, hb6⟩
        go_wp2
        go_roundw
        case rel => exact ⟨j + 1, m - 1, _, by omega, by congr 1; omega, rfl, by rw [ByteArray.size_append, hs1]; omega, (s4.grow hb6).more (by omega)⟩
        case measure => simp [intOf]; omega
    · have hm' : (m : Int) ≤ 0 := by omega
      go_wp2_with fail
      refine (pick_st _ _ _ _ _ hs (by omega) (by decide)).mono ?_
      rintro e w3 ⟨k, rfl, k0, k1, s3, _⟩
      clear hs
      by_cases e0 : (k == 0) = true
      · go_wp2
        go_ret
        exact ⟨_, rfl, by rw [ByteArray.size_append]; have : (⟨#[65]⟩ : ByteArray).size = 1 := rfl; omega, s3.more (by omega)⟩
      · have e0' : (k == 0) = false := by simpa using e0
        clear e0
        by_cases e1 : (k == 1) = true
        · go_wp2_with fail
          refine (pick_st _ _ _ _ _ s3 (by omega) (by decide)).mono ?_
          rintro e w4 ⟨q, rfl, q0, q1, s4, _⟩
          go_wp2_with fail
          refine (l6Many_e _ _ (by omega) (by omega)).mono ?_
          rintro e w5 ⟨t', rfl, ht', rfl⟩
          go_wp2
          go_ret
          exact ⟨_, rfl, ht', s4.more (by omega)⟩
        · have e1' : (k == 1) = false := by simpa using e1
          clear e1
          go_wp2
          go_ret
          exact ⟨_, rfl, by omega, s3.more (by omega)⟩

end Go.Proofs.Ytafhpcgdlmkbeae
