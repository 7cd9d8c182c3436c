import Derived.Test.YtloegojbenjfdaaDraw
namespace Go.Proofs.Ytloegojbenjfdaa
open Go.RowKit
set_option linter.unusedVariables false

theorem specWrite_small (n bits head : Int) (w : World) :
    Calls Try.prog 11 #[.int .i64 n, .int .i64 bits, .int .i64 head] w fun e w' => ∃ s : ByteArray, e = .returned (.string s) ∧ s.size ≤ 3 ∧ Below w.heap.size w w' := by
  by_cases h : nOk n bits head
  · refine (specWrite_ok n bits head w h).mono ?_
    rintro e w' ⟨rfl, hb⟩
    refine ⟨_, rfl, ?_, hb⟩
    unfold numS
    rw [strOfNums_size]
    unfold numL
    split
    · simp
    · split <;> simp
  · refine (specWrite_bad n bits head w h).mono ?_
    rintro e w' ⟨rfl, rfl⟩
    exact ⟨_, rfl, by decide, Below.refl _ _⟩

set_option maxHeartbeats 1000000 in
theorem drawNumRead (a : Option Addr) (len cap : Nat) (zs : List Int) (w : World) (hr : Row w a len cap zs) :
    Calls Try.prog 13 #[.slice a len cap] w fun e w' => ∃ (s : ByteArray) (bits : Int), e = .returned (.tuple #[.string s, .int .i64 bits]) ∧ s.size ≤ 10 ∧ 2 ≤ bits ∧ bits ≤ 8 ∧ Below w.heap.size w w' := by
  have HR : Hid (Row w a len cap zs) := hr
  clear hr
  go_enter Try.func13, Try.ntmps13
  go_wp2_with fail
  refine (open_st _ _ _ _ _ HR.out).mono ?_
  rintro e w1 ⟨rfl, s1⟩
  go_wp2_with fail
  refine (drawNumWrite _ _ _ _ _ (HR.out.below s1.bel)).mono ?_
  rintro e w2 ⟨n, bits, head, rfl, n0, n1, b0, b1, h0, h1, hb2⟩
  have s2 := s1.grow hb2
  clear s1 hb2
  go_wp2_with fail
  refine (specWrite_small _ _ _ _).mono ?_
  rintro e w3 ⟨s, rfl, hs, hb3⟩
  have s3 := s2.grow hb3
  clear s2 hb3
  go_wp2_with fail
  refine (pick_st _ _ _ _ _ s3 (by decide) (by decide)).mono ?_
  rintro e w4 ⟨k, rfl, k0, k1, s4, _⟩
  clear s3
  by_cases e0 : (k == 0) = true
  · go_wp2_with fail
    refine (pick_st _ _ _ _ _ s4 (by decide) (by decide)).mono ?_
    rintro e w5 ⟨v, rfl, v0, v1, s5, _⟩
    go_wp2_with fail
    refine (l1Byte_any _ _ (by omega) (by omega)).mono ?_
    rintro e w6 ⟨rfl, hb6⟩
    have hz : (strOfNums [v]).size = 1 := rfl
    go_wp2
    go_ret2
    exact ⟨_, _, rfl, by rw [ByteArray.size_append, hz]; omega, b0, b1, (s5.grow hb6).bel⟩
  · have e0' : (k == 0) = false := by simpa using e0
    clear e0
    by_cases e1 : (k == 1) = true
    · go_wp2_with fail
      refine (pick_st _ _ _ _ _ s4 (by decide) (by omega)).mono ?_
      rintro e w5 ⟨v, rfl, v0, v1, s5, _⟩
      have v2 : v ≤ (s.size : Int) := by omega
      go_wp2
      go_ret2
      exact ⟨_, _, rfl, by rw [ByteArray.size_extract]; omega, b0, b1, s5.bel⟩
    · have e1' : (k == 1) = false := by simpa using e1
      clear e1
      by_cases e2 : (k == 2) = true
      · go_wp2_with fail
        refine (l1Byte_any _ _ (by decide) (by decide)).mono ?_
        rintro e w5 ⟨rfl, hb5⟩
        have s5 := s4.grow hb5
        have hz5 : (strOfNums [255]).size = 1 := rfl
        go_wp2_with fail
        refine (pick_st _ _ _ _ _ s5 (by decide) (by decide)).mono ?_
        rintro e w6 ⟨v, rfl, v0, v1, s6, _⟩
        go_wp2_with fail
        refine (l1Byte_any _ _ (by omega) (by omega)).mono ?_
        rintro e w7 ⟨rfl, hb7⟩
        have s7 := s6.grow hb7
        have hz7 : (strOfNums [128 + v]).size = 1 := rfl
        have hz8 : (strOfNums [255] ++ strOfNums [128 + v]).size = 2 := by rw [ByteArray.size_append, hz5, hz7]
        go_wp2_with fail
        refine (pick_st _ _ _ _ _ s7 (by decide) (by decide)).mono ?_
        rintro e w8 ⟨u, rfl, u0, u1, s8, _⟩
        go_wp2_with fail
        refine (l1Byte_any _ _ (by omega) (by omega)).mono ?_
        rintro e w9 ⟨rfl, hb9⟩
        have hz9 : (strOfNums [u]).size = 1 := rfl
        go_wp2
        go_ret2
        exact ⟨_, _, rfl, by rw [ByteArray.size_append, hz8, hz9]; omega, b0, b1, (s8.grow hb9).bel⟩
      · have e2' : (k == 2) = false := by simpa using e2
        clear e2
        go_wp2
        go_ret2
        exact ⟨_, _, rfl, by omega, b0, b1, s4.bel⟩
end Go.Proofs.Ytloegojbenjfdaa
