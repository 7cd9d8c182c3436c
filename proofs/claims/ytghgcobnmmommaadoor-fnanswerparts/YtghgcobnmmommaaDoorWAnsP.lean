import Derived.Test.YtghgcobnmmommaaDoorEnA3
import Derived.Test.YtghgcobnmmommaaDoorEdF2
namespace Go.Proofs.YtghgcobnmmommaaDoor
open Go.RowKit
set_option linter.unusedVariables false

set_option maxRecDepth 100000 in
set_option maxHeartbeats 20000000 in
theorem fnAnswerParts_walk (a0 : Option Addr) (len0 cap0 : Nat) (z0 : List Int) (a1 : Option Addr) (len1 cap1 : Nat) (z1 : List Int) (w : World) (w0 : Row w a0 len0 cap0 z0) (w1 : Row w a1 len1 cap1 z1) :
    Calls Tryd.prog 4 #[.slice a0 len0 cap0, .slice a1 len1 cap1] w fun e w' => e = .returned (.bool true) ∧ Below w.heap.size w w' := by
  by_cases c0 : (1048576 : Int) < len0
  · clear w0 w1
    go_enter Tryd.func4, Tryd.ntmps4
    go_wp2
    go_ret
    exact ⟨rfl, Below.refl _ _⟩
  by_cases c1 : (1048576 : Int) < len1
  · clear w0 w1
    go_enter Tryd.func4, Tryd.ntmps4
    go_wp2
    go_ret
    exact ⟨rfl, Below.refl _ _⟩
  have R0 : Hid (Row w a0 len0 cap0 z0) := w0
  clear w0 w1
  go_enter Tryd.func4, Tryd.ntmps4
  go_wp2_with fail
  refine (drawEndAnswer _ _ _ _ _ R0.out).mono ?_
  rintro e w1 ⟨p, t, rfl, hp, ht, hB⟩
  clear R0
  have hS := fun W => specEndAnswer p t W (by unfold maxLen; omega)
  have hI := fun W => implAnsSmall p t W (by omega)
  have HS : Hid _ := hS
  have HI : Hid _ := hI
  clear hS hI
  unfold edAns at HS HI
  rw [pEcho_l, pUp_l, pLen_l] at HS HI
  obtain ⟨K, hK⟩ : ∃ K : Nat, len1 % (t.size + 1) = K := ⟨_, rfl⟩
  have hKle : K ≤ t.size := by have h := Nat.mod_lt len1 (show 0 < t.size + 1 by omega); rw [hK] at h; omega
  have hk0 : (len1 : Int).tmod ((t.size : Int) + 1) = (K : Int) := by rw [Int.tmod_eq_emod_of_nonneg (by omega), ← hK]; simp
  have hk1 : (len1 : Int) % ((t.size : Int) + 1) = (K : Int) := by rw [← hK]; simp
  have hw1 : IntKind.i64.wrap ((t.size : Int) + 1) = (t.size : Int) + 1 := by rw [IntKind.wrap_i64]; omega
  have hK0 : (0 : Int) ≤ K := by omega
  have hK1 : (K : Int) ≤ t.size := by omega
  clear hK
  obtain ⟨x, hx⟩ : ∃ x, t.extract 0 K = x := ⟨_, rfl⟩
  obtain ⟨y, hy⟩ : ∃ y, t.extract K t.size = y := ⟨_, rfl⟩
  have hxs : x.size ≤ 20 := by rw [← hx, ByteArray.size_extract]; omega
  have hys : y.size ≤ 20 := by rw [← hy, ByteArray.size_extract]; omega
  have hX := fun W => implAnsSmall p x W (by omega)
  have hY := fun W => implAnsSmall p y W (by omega)
  unfold edAns at hX hY
  rw [pEcho_l, pUp_l, pLen_l] at hX hY
  have HX : Hid _ := hX
  have HY : Hid _ := hY
  clear hX hY
  by_cases h1 : (p.toList == [47, 101, 99, 104, 111]) = true
  · rw [if_pos h1] at HS HI HX HY
    dsimp only at HS HI HX HY
    have hxy : x ++ y = t := by rw [← hx, ← hy]; exact extract_parts t K hKle
    have hc4 : x.size + y.size ≤ 9223372036854775807 := by omega
    have hc4' : ¬ 9223372036854775807 < x.size + y.size := by omega
    go_wp2_with (first | (go_at_call 7; refine (HS.out _).mono ?_; rintro e w2 ⟨rfl, hb2⟩) | (go_at_call 8; refine (HI.out _).mono ?_; rintro e w3 ⟨rfl, hb3⟩; refine Hid.out ?_))
    all_goals
      refine hidI2 ?_
      go_wp2_with (go_at_call 8; refine (HX.out _).mono ?_; rintro e w4 ⟨rfl, hb4⟩; refine Hid.out ?_)
      all_goals
        refine hidI2 ?_
        go_wp2_with (go_at_call 8; refine (HY.out _).mono ?_; rintro e w5 ⟨rfl, hb5⟩)
        go_ret
        exact ⟨rfl, btF (btF (btF (btF hB hb2) hb3) hb4) hb5⟩
  rw [if_neg h1] at HS HI HX HY
  have h1' : (p.toList == [47, 101, 99, 104, 111]) = false := by simpa using h1
  by_cases h2 : (p.toList == [47, 117, 112]) = true
  · rw [if_pos h2] at HS HI HX HY
    dsimp only at HS HI HX HY
    have hxy : upB x ++ upB y = upB t := by rw [← hx, ← hy]; exact upB_parts t K hKle
    obtain ⟨u, hu⟩ : ∃ u, upB t = u := ⟨_, rfl⟩
    obtain ⟨u1, hu1⟩ : ∃ u, upB x = u := ⟨_, rfl⟩
    obtain ⟨u2, hu2⟩ : ∃ u, upB y = u := ⟨_, rfl⟩
    have hc4 : u1.size + u2.size ≤ 9223372036854775807 := by rw [← hu1, ← hu2, upB_size, upB_size]; omega
    have hc4' : ¬ 9223372036854775807 < u1.size + u2.size := by omega
    rw [hu, hu1, hu2] at hxy
    rw [hu] at HS HI
    rw [hu1] at HX
    rw [hu2] at HY
    clear hu hu1 hu2 h1
    go_wp2_with (first | (go_at_call 7; refine (HS.out _).mono ?_; rintro e w2 ⟨rfl, hb2⟩) | (go_at_call 8; refine (HI.out _).mono ?_; rintro e w3 ⟨rfl, hb3⟩; refine Hid.out ?_))
    refine hidI2 ?_
    go_wp2_with (go_at_call 8; refine (HX.out _).mono ?_; rintro e w4 ⟨rfl, hb4⟩; refine Hid.out ?_)
    refine hidI2 ?_
    go_wp2_with (go_at_call 8; refine (HY.out _).mono ?_; rintro e w5 ⟨rfl, hb5⟩)
    go_ret
    exact ⟨rfl, btF (btF (btF (btF hB hb2) hb3) hb4) hb5⟩
  have h2' : (p.toList == [47, 117, 112]) = false := by simpa using h2
  obtain ⟨⟨s1, s2⟩, hs⟩ : ∃ s, (if p.toList == [47, 117, 112] then (sYes, upB t) else if p.toList == [47, 108, 101, 110] then (sYes, decB t.size) else (sNo, eB)) = s := ⟨_, rfl⟩
  rw [hs] at HS HI
  dsimp only at HS HI
  clear hs HX HY hx hy h1 h2
  go_wp2_with (first | (go_at_call 7; refine (HS.out _).mono ?_; rintro e w2 ⟨rfl, hb2⟩) | (go_at_call 8; refine (HI.out _).mono ?_; rintro e w3 ⟨rfl, hb3⟩))
  go_ret
  exact ⟨rfl, btF (btF hB hb2) hb3⟩
end Go.Proofs.YtghgcobnmmommaaDoor
