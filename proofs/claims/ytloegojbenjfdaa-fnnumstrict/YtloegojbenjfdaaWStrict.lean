import Derived.Test.YtloegojbenjfdaaLaws0
import Derived.Test.YtloegojbenjfdaaDraw2
import Derived.Test.YtloegojbenjfdaaSpRA
import Derived.Deep.RegionHeld3
namespace Go.Proofs.Ytloegojbenjfdaa
open Go.RowKit
set_option linter.unusedVariables false

theorem rd_strict (bits : Int) (b0 : 3 ≤ bits) (b1 : bits ≤ 7) (l : List Int) (hl : ∀ x ∈ l, 0 ≤ x ∧ x ≤ 255) (x u : Int) (h : rd (pw bits) l = (x, u, true)) :
    ∃ a t, l = a :: t ∧ nOk x bits (a / pw bits) ∧ 1 ≤ u ∧ u ≤ (l.length : Int) ∧ numL x (pw bits) (a / pw bits) = l.take u.toNat := by
  have key : ∀ a : Int, 0 ≤ a → a ≤ 255 → 0 ≤ a / pw bits ∧ a / pw bits < pw (8 - bits) ∧ a / pw bits * pw bits + a % pw bits = a ∧ 0 ≤ a % pw bits ∧ a % pw bits ≤ pw bits - 1 ∧ pw bits ≤ 128 := by
    intro a a0 a1
    rcases bits_cases b0 b1 with rfl | rfl | rfl | rfl | rfl
    all_goals
      simp only [show (8 : Int) - 3 = 5 from rfl, show (8 : Int) - 4 = 4 from rfl, show (8 : Int) - 5 = 3 from rfl, show (8 : Int) - 6 = 2 from rfl, show (8 : Int) - 7 = 1 from rfl, pw1, pw2, pw3, pw4, pw5, pw6, pw7]
      omega
  have one : ∀ a t, l = a :: t → a % pw bits < pw bits - 1 → (x, u, true) = (a % pw bits, 1, true) → ∃ a t, l = a :: t ∧ nOk x bits (a / pw bits) ∧ 1 ≤ u ∧ u ≤ (l.length : Int) ∧ numL x (pw bits) (a / pw bits) = l.take u.toNat := by
    intro a t e h1 h2
    simp at h2
    obtain ⟨rfl, rfl⟩ := h2
    obtain ⟨m0, m1, m2, m3, m4, m5⟩ := key a (hl a (by rw [e]; simp)).1 (hl a (by rw [e]; simp)).2
    refine ⟨a, t, e, ⟨b0, b1, m3, by omega, m0, m1⟩, by omega, by rw [e]; simp; omega, ?_⟩
    rw [numL_a h1, m2, e]; rfl
  have two : ∀ a b t, l = a :: b :: t → ¬ a % pw bits < pw bits - 1 → b < 128 → (x, u, true) = (pw bits - 1 + b, 2, true) → ∃ a t, l = a :: t ∧ nOk x bits (a / pw bits) ∧ 1 ≤ u ∧ u ≤ (l.length : Int) ∧ numL x (pw bits) (a / pw bits) = l.take u.toNat := by
    intro a b t e h1 hb h2
    simp at h2
    obtain ⟨rfl, rfl⟩ := h2
    obtain ⟨m0, m1, m2, m3, m4, m5⟩ := key a (hl a (by rw [e]; simp)).1 (hl a (by rw [e]; simp)).2
    have hb0 := (hl b (by rw [e]; simp)).1
    have hp := pw_pos bits
    refine ⟨a, b :: t, e, ⟨b0, b1, by omega, by omega, m0, m1⟩, by omega, by rw [e]; simp; omega, ?_⟩
    rw [numL_b (by omega) (by omega), e]
    show [a / pw bits * pw bits + (pw bits - 1), pw bits - 1 + b - (pw bits - 1)] = [a, b]
    rw [show a / pw bits * pw bits + (pw bits - 1) = a by omega, show pw bits - 1 + b - (pw bits - 1) = b by omega]
  match l, hl, h, one, two with
  | [], hl, h, one, two => simp [rd] at h
  | [a], hl, h, one, two =>
    rw [rd1] at h
    by_cases h1 : a % pw bits < pw bits - 1
    · rw [if_pos h1] at h; exact one a [] rfl h1 h.symm
    · rw [if_neg h1] at h; simp at h
  | [a, b], hl, h, one, two =>
    rw [rd2] at h
    by_cases h1 : a % pw bits < pw bits - 1
    · rw [if_pos h1] at h; exact one a [b] rfl h1 h.symm
    · rw [if_neg h1] at h
      by_cases h2 : b < 128
      · rw [if_pos h2] at h; exact two a b [] rfl h1 h2 h.symm
      · rw [if_neg h2] at h; simp at h
  | a :: b :: c :: t, hl, h, one, two =>
    rw [rd3] at h
    by_cases h1 : a % pw bits < pw bits - 1
    · rw [if_pos h1] at h; exact one a _ rfl h1 h.symm
    · rw [if_neg h1] at h
      by_cases h2 : b < 128
      · rw [if_pos h2] at h; exact two a b _ rfl h1 h2 h.symm
      · rw [if_neg h2] at h
        by_cases h3 : 128 ≤ c ∨ c = 0 ∨ 9999 < pw bits - 1 + (b - 128) + 128 * c
        · rw [if_pos h3] at h; simp at h
        · rw [if_neg h3] at h
          simp at h
          obtain ⟨rfl, rfl⟩ := h
          obtain ⟨m0, m1, m2, m3, m4, m5⟩ := key a (hl a (by simp)).1 (hl a (by simp)).2
          have hb0 := (hl b (by simp)).2
          have hc0 := (hl c (by simp)).1
          have hp := pw_pos bits
          refine ⟨a, _, rfl, ⟨b0, b1, by omega, by omega, m0, m1⟩, by omega, by simp; omega, ?_⟩
          rw [numL_c (by omega) (by omega)]
          show [a / pw bits * pw bits + (pw bits - 1), 128 + (pw bits - 1 + (b - 128) + 128 * c - (pw bits - 1)) % 128, (pw bits - 1 + (b - 128) + 128 * c - (pw bits - 1)) / 128] = [a, b, c]
          rw [show a / pw bits * pw bits + (pw bits - 1) = a by omega, show 128 + (pw bits - 1 + (b - 128) + 128 * c - (pw bits - 1)) % 128 = b by omega, show (pw bits - 1 + (b - 128) + 128 * c - (pw bits - 1)) / 128 = c by omega]

theorem rdV_strict {s : ByteArray} {bits x u : Int} (h : rdV s bits = (x, u, true)) :
    ∃ (hs : 0 < s.size) (x0 : Int), ((s[0]'hs).toNat : Int) = x0 ∧ 0 ≤ x0 ∧ x0 ≤ 255 ∧ 3 ≤ bits ∧ bits ≤ 7 ∧ nOk x bits (x0 / pw bits) ∧ 1 ≤ u ∧ u ≤ (s.size : Int) ∧ numS x bits (x0 / pw bits) = s.extract 0 u.toNat := by
  unfold rdV at h
  by_cases hb : 3 ≤ bits ∧ bits ≤ 7
  · rw [if_pos hb] at h
    obtain ⟨a, t, e, h1, h2, h3, h4⟩ := rd_strict bits hb.1 hb.2 (bytesL s) (bytesL_bd s) x u h
    obtain ⟨hk, q, a0, a1⟩ := of_cons (k := 0) (x := a) e rfl
    rw [bytesL_length] at h3
    refine ⟨hk, a, q, a0, a1, hb.1, hb.2, h1, h2, h3, ?_⟩
    rw [extract_take, ← h4]; rfl
  · rw [if_neg hb] at h; simp at h

set_option maxHeartbeats 1000000 in
theorem fnNumStrict_walk (a0 : Option Addr) (len0 cap0 : Nat) (z0 : List Int) (w : World) (w0 : Row w a0 len0 cap0 z0) :
    Calls Try.prog 4 #[.slice a0 len0 cap0] w fun e w' => e = .returned (.bool true) ∧ Below w.heap.size w w' := by
  by_cases c0 : (1048576 : Int) < len0
  · clear w0
    go_enter Try.func4, Try.ntmps4
    go_wp2
    go_ret
    exact ⟨rfl, Below.refl _ _⟩
  have R0 : Hid (Row w a0 len0 cap0 z0) := w0
  clear w0
  go_enter Try.func4, Try.ntmps4
  go_wp2_with fail
  refine (drawNumRead _ _ _ _ _ R0.out).mono ?_
  rintro e wa ⟨s, bits, rfl, hs, b0, b1, hb⟩
  go_wp2_with fail
  refine (specRead_any _ _ _ (by unfold maxLen; omega)).mono ?_
  rintro e wb ⟨rfl, rfl⟩
  obtain ⟨⟨x, u, ok⟩, hrd⟩ : ∃ r, rdV s bits = r := ⟨_, rfl⟩
  rw [hrd]
  have HRD : Hid (rdV s bits = (x, u, ok)) := hrd
  clear hrd
  unfold tupV
  go_wp2_with fail
  refine (numRead_any _ _ _ (by unfold maxLen; omega)).mono ?_
  rintro e wc ⟨rfl, hb2⟩
  rw [HRD.out]
  unfold tupV
  cases ok with
  | false =>
    go_wp2
    go_ret
    exact ⟨rfl, bt hb hb2⟩
  | true =>
    obtain ⟨hs0, x0, q0, y0, y1, k0, k1, hok, u0, u1, hcmp⟩ := rdV_strict HRD.out
    have HO : Hid (nOk x bits (x0 / pw bits)) := hok
    have e4 : ((numS x bits (x0 / pw bits)).toList == (s.extract 0 u.toNat).toList) = true := eqT hcmp
    have hp := pw_bd bits k0 k1
    obtain ⟨p0, p1⟩ := hp
    have hwr : IntKind.i64.wrap x0 = x0 := by rw [IntKind.wrap_i64]; omega
    have hi1 : (0 : Int) ≤ u := by omega
    have hsum : IntKind.i64.wrap (pw bits) = pw bits := by rw [IntKind.wrap_i64]; omega
    have hdz : ¬ pw bits = 0 := by omega
    have htd : x0.tdiv (pw bits) = x0 / pw bits := Int.tdiv_eq_ediv_of_nonneg y0
    have hdl : x0 / pw bits ≤ 255 := Int.le_trans (Int.ediv_le_self _ y0) y1
    have hwd : IntKind.i64.wrap (x0 / pw bits) = x0 / pw bits := by
      have : 0 ≤ x0 / pw bits := Int.ediv_nonneg y0 (by omega)
      rw [IntKind.wrap_i64]; omega
    have hd0 : 0 ≤ x0 / pw bits := Int.ediv_nonneg y0 (by omega)
    clear hok hcmp HRD
    go_wp2
    go_region_held3 (fun w' => True) (trivial) ((first | (go_at_call 15; refine (lkTop_any _ _ (by omega) (by omega)).mono ?_; rintro e wx ⟨rfl, rfl⟩) | (go_at_call 10; refine (numWrite_ok _ _ _ _ HO.out).mono ?_; rintro e wN ⟨rfl, hbN⟩)))
    all_goals
      go_wp2
      go_ret
      exact ⟨rfl, (bt hb hb2).drew.trans (hbN.mono (Nat.le_trans hb.size hb2.size))⟩
end Go.Proofs.Ytloegojbenjfdaa
