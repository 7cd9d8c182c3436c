import Derived.Test.YtmegdgkpdonikaaDoorFD2
namespace Go.Proofs.YtmegdgkpdonikaaDoor
open Go.RowKit
set_option linter.unusedVariables false

theorem byte_oneF (n : Int) (w : World) (h0 : 0 ≤ n) (h1 : n ≤ 255) : Calls Tryd.prog 25 #[.int .i64 n] w fun e w' => ∃ u : ByteArray, e = .returned (.string u) ∧ u.size = 1 ∧ Below w.heap.size w w' := by
  refine (l1Byte_any n w h0 h1).mono ?_
  rintro e w' ⟨rfl, hb⟩
  exact ⟨_, rfl, strOfNums_size _, hb⟩
theorem frameWr_some (f : Fr) (w : World) (hz : f.b.size ≤ 300) : Calls Tryd.prog 11 #[f.val] w fun e w' => ∃ u : ByteArray, e = .returned (.string u) ∧ u.size ≤ 204 ∧ Below w.heap.size w w' := by
  refine (specFrameWrite f w (by unfold maxLen; omega)).mono ?_
  rintro e w' ⟨rfl, hb⟩
  exact ⟨_, rfl, frWr_size f, hb⟩

set_option maxRecDepth 100000 in
set_option maxHeartbeats 2000000 in
theorem drawFrameRead (a : Option Addr) (len cap : Nat) (zs : List Int) (w : World) (hr : Row w a len cap zs) :
    Calls Tryd.prog 13 #[.slice a len cap] w fun e w' => ∃ s : ByteArray, e = .returned (.string s) ∧ s.size ≤ 600 ∧ Below w.heap.size w w' := by
  have HR : Hid (Row w a len cap zs) := hr
  clear hr
  go_enter Tryd.func13, Tryd.ntmps13
  go_wp2_with fail
  refine (open_st2F _ _ _ _ _ HR.out).mono ?_
  rintro e w1 ⟨rfl, s1, hb1, hz1⟩
  clear HR
  go_wp2_with fail
  refine (l71Frame_any w.heap.size 0 _ _ s1 (by decide)).mono ?_
  rintro e w2 ⟨f, rfl, hz, s2⟩
  have hB2 := s2.belF hb1 (Nat.le_refl _) hb1.size
  have hfw := fun w => frameWr_some f w hz
  unfold Fr.val at hfw ⊢
  clear s1 hb1 hz
  go_wp2_with fail
  refine (hfw _).mono ?_
  rintro e w3 ⟨S, rfl, hS, hb3⟩
  have s3 := s2.grow hb3
  have hB3 := hB2.trans (hb3.mono hB2.size)
  clear s2 hb3 hfw hB2
  go_wp2_with fail
  refine (pick_st2 w.heap.size 200 _ _ _ s3.self (by decide) (by omega)).mono ?_
  rintro e w4 ⟨v, rfl, v0, v1, k4, _⟩
  obtain ⟨n, rfl⟩ : ∃ n : Nat, v = (n : Int) := ⟨v.toNat, by omega⟩
  have hn : n ≤ S.size := by omega
  have hn' : (n : Int) ≤ S.size := by omega
  have s4 := s3.step k4
  have hB4 := k4.belF hB3 (Nat.le_refl _) hB3.size
  clear s3 k4 hB3 v0 v1
  go_wp2_with fail
  refine (pick_st2 w.heap.size 201 _ _ _ s4.self (by decide) (by decide)).mono ?_
  rintro e w5 ⟨x, rfl, x0, x1, k5, _⟩
  have s5 := s4.step k5
  have hB5 := k5.belF hB4 (Nat.le_refl _) hB4.size
  clear s4 k5 hB4
  by_cases e0 : (x == 0) = true
  · go_wp2
    go_ret
    exact ⟨_, rfl, by simp; omega, hB5⟩
  · have e0' : (x == 0) = false := by simpa using e0
    clear e0
    by_cases e1 : (x == 1) = true
    · go_wp2_with fail
      refine (l71Frame_any w.heap.size 202 _ _ s5.self (by decide)).mono ?_
      rintro e w6 ⟨g, rfl, hzg, k6⟩
      have hB6 := k6.belF hB5 (Nat.le_refl _) hB5.size
      have hgw := fun w => frameWr_some g w hzg
      unfold Fr.val at hgw ⊢
      clear k6 hB5 s5 hzg
      go_wp2_with fail
      refine (hgw _).mono ?_
      rintro e w7 ⟨T, rfl, hT, hb7⟩
      have hB7 := hB6.trans (hb7.mono hB6.size)
      have g1 : ¬ 9223372036854775807 < S.size + T.size := (by omega)
      clear hgw hb7 hB6
      go_wp2
      go_ret
      exact ⟨_, rfl, by rw [ByteArray.size_append]; omega, hB7⟩
    · have e1' : (x == 1) = false := by simpa using e1
      clear e1
      by_cases e2 : (x == 2) = true
      · have hmx : Tryd.prog.follows .mixedOrders = true := by kernel_rfl
        have s5d := s5.grow ((Below.refl _ _).drew)
        have hB5d := hB5.drew
        have hpk := pick_st2 w.heap.size 202 256 _ _ s5d.self (by decide) (by decide)
        have hbyte := fun (n : Int) (w' : World) (h0 : 0 ≤ n) (h1 : n ≤ 255) => byte_oneF n w' h0 h1
        have hsl1 : ∀ W : World, (Instr.slice 9 (.string S) none (some (.int .i64 (n : Int))) none).run Tryd.prog W = .ok (.string (S.extract 0 n)) W := fun W => by
          have h := run_slice_string_h (P := Tryd.prog) W 9 S Tryd.underlying9 .i64 (n : Int) (by omega) (by omega)
          rw [Int.toNat_natCast] at h
          exact h
        have hsl2 : ∀ W : World, (Instr.slice 9 (.string S) (some (.int .i64 (n : Int))) none none).run Tryd.prog W = .ok (.string (S.extract n S.size)) W := fun W => by
          have h := run_slice_string_l (P := Tryd.prog) W 9 S Tryd.underlying9 .i64 (n : Int) (by omega) (by omega)
          rw [Int.toNat_natCast] at h
          exact h
        have hp1 : (S.extract 0 n).size ≤ 204 := by rw [ByteArray.size_extract]; omega
        have hq1 : (S.extract n S.size).size ≤ 204 := by rw [ByteArray.size_extract]; omega
        obtain ⟨p, hp⟩ : ∃ p, S.extract 0 n = p := ⟨_, rfl⟩
        obtain ⟨q, hq⟩ : ∃ q, S.extract n S.size = q := ⟨_, rfl⟩
        rw [hp] at hsl1 hp1
        rw [hq] at hsl2 hq1
        clear s5 hB5 hp hq
        go_wp2
        go_region_held3 (fun w' => Below w.heap.size w w') (first | with_reducible assumption) ((first | (go_at_call 24; refine hpk.mono ?_; clear hpk; rintro e w7 ⟨v7, rfl, v70, v71, k7, _⟩; have hB7 := k7.belF hB5d (Nat.le_refl _) hB5d.size) | (go_at_call 25; refine (hbyte v7 _ v70 (by omega)).mono ?_; rintro e w8 ⟨u8, rfl, hu8, hb8⟩; have hB8 := hB7.trans (hb8.mono hB7.size); have g1 : ¬ 9223372036854775807 < p.size + u8.size := (by omega); have g2 : ¬ 9223372036854775807 < p.size + u8.size + q.size := (by omega); have g3 : p.size + u8.size ≤ 9223372036854775807 := (by omega); have g4 : p.size + u8.size + q.size ≤ 9223372036854775807 := (by omega); have g5 : ¬ 9223372036854775807 < p.size + 1 := (by omega); have g6 : ¬ 9223372036854775807 < p.size + 1 + q.size := (by omega); have g7 : p.size + 1 ≤ 9223372036854775807 := (by omega); have g8 : p.size + 1 + q.size ≤ 9223372036854775807 := (by omega))))
        all_goals
          go_wp2
          go_ret
          exact ⟨_, rfl, by simp [ByteArray.size_append]; omega, hB8⟩
      · have e2' : (x == 2) = false := by simpa using e2
        clear e2
        go_wp2
        go_ret
        exact ⟨_, rfl, by omega, hB5⟩
end Go.Proofs.YtmegdgkpdonikaaDoor
