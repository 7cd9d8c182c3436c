import Derived.Test.YtpgcmjbmkjnjnaaFlL0
import Derived.Test.YtpgcmjbmkjnjnaaFlI
import Derived.Test.YtpgcmjbmkjnjnaaFlD2
import Derived.Deep.DeepCutAuto
import Derived.Deep.RegionHeld3
namespace Go.Proofs.Ytpgcmjbmkjnjnaa
open Go.RowKit
set_option linter.unusedVariables false

set_option maxRecDepth 100000 in
set_option maxHeartbeats 20000000 in
theorem fnFlowBoth_walk (a0 : Option Addr) (len0 cap0 : Nat) (z0 : List Int) (a1 : Option Addr) (len1 cap1 : Nat) (z1 : List Int) (w : World) (w0 : Row w a0 len0 cap0 z0) (w1 : Row w a1 len1 cap1 z1) :
    Calls Try.prog 8 #[.slice a0 len0 cap0, .slice a1 len1 cap1] w fun e w' => e = .returned (.bool true) ∧ Below w.heap.size w w' := by
  by_cases c0 : (1048576 : Int) < len0
  · clear w0 w1
    go_enter Try.func8, Try.ntmps8
    go_wp2
    go_ret
    exact ⟨rfl, Below.refl _ _⟩
  by_cases c1 : (1048576 : Int) < len1
  · clear w0 w1
    go_enter Try.func8, Try.ntmps8
    go_wp2
    go_ret
    exact ⟨rfl, Below.refl _ _⟩
  have R0 : Hid (Row w a0 len0 cap0 z0) := w0
  have R1 : Hid (Row w a1 len1 cap1 z1) := w1
  clear w0 w1
  go_enter Try.func8, Try.ntmps8
  go_wp2_with fail
  refine (drawFlowSend _ _ _ _ _ R0.out).mono ?_
  rintro e w1 ⟨f, n, rfl, hd, n0, n1, hB⟩
  clear R0 R1
  obtain ⟨s, r⟩ := f
  obtain ⟨d0, d1, d2, d3⟩ := hd
  dsimp only at d0 d1 d2 d3
  unfold Fw.val
  dsimp only
  have hbA : Below w1.heap.size w1 (w1.alloc (.cells #[.int .i64 s, .int .i64 r] 24)) := ((Below.refl _ _).alloc (Nat.le_refl _) _)
  replace hB := btF hB hbA
  clear hbA
  have C_f : (w1.alloc (.cells #[.int .i64 s, .int .i64 r] 24)).heap[w1.heap.size]? = some (.cells #[.int .i64 s, .int .i64 r] 24 (0, 0)) := heap_alloc_last w1 _
  by_cases hy : flOk ⟨s, r⟩ = true ∧ 0 ≤ n ∧ n ≤ s
  · obtain ⟨ho, hn0, hn1⟩ := hy
    have hbd := flOk_iff.1 ho
    dsimp only at hbd
    obtain ⟨⟨hs0, hs1⟩, hr0, hr1⟩ := hbd
    have hSS := fun w => specFlowSend ⟨s, r⟩ n w
    rw [flSend_yes ho hn0 hn1] at hSS
    unfold Fw.val at hSS
    dsimp only at hSS
    have hIS := fun w => implFlowSend ⟨s, r⟩ n w
    rw [flSend_yes ho hn0 hn1] at hIS
    unfold Fw.val at hIS
    dsimp only at hIS
    have heq := eqFw_run ⟨s - n, r⟩ ⟨s - n, r⟩
    rw [eqFw_self] at heq
    obtain ⟨k, hk⟩ : ∃ k : Int, (len1 : Int).tmod 10 = k := ⟨_, rfl⟩
    have hk' : (len1 : Int) % 10 = k := by rw [← hk, Int.tmod_eq_emod_of_nonneg (by omega)]
    have hk0 : 0 ≤ k := by omega
    have ho2 : flOk ⟨s - n, r⟩ = true := flOk_iff.2 ⟨⟨by show 0 ≤ s - n; omega, by show s - n ≤ 31; omega⟩, hr0, hr1⟩
    by_cases hkr : k ≤ r
    · skip
      have ho3 : flOk ⟨s, r - k⟩ = true := flOk_iff.2 ⟨⟨hs0, hs1⟩, by show 0 ≤ r - k; omega, by show r - k ≤ 31; omega⟩
      have hG1 := fun w => implFlowGot ⟨s - n, r⟩ k w
      rw [flGot_yes ho2 hk0 hkr] at hG1
      unfold Fw.val at hG1
      dsimp only at hG1
      have hG2 := fun w => implFlowGot ⟨s, r⟩ k w
      rw [flGot_yes ho hk0 hkr] at hG2
      unfold Fw.val at hG2
      dsimp only at hG2
      have hI3 := fun w => implFlowSend ⟨s, r - k⟩ n w
      rw [flSend_yes ho3 hn0 hn1] at hI3
      unfold Fw.val at hI3
      dsimp only at hI3
      have heq2 := eqFw_run ⟨s - n, r - k⟩ ⟨s - n, r - k⟩
      rw [eqFw_self] at heq2
      clear ho ho2 ho3
      obtain ⟨tf0, tf1, tf2, tf3⟩ := row2w C_f
      go_wp2_with fail
      refine (hSS _).mono ?_
      rintro e v1 ⟨rfl, hb⟩
      clear tf0 tf1 tf2 tf3
      replace C_f := blkF hb C_f
      replace hB := btF hB hb
      clear hb
      clear hSS
      have hbA : Below v1.heap.size v1 (v1.alloc (.cells #[.int .i64 (s - n), .int .i64 r] 24)) := ((Below.refl _ _).alloc (Nat.le_refl _) _)
      replace C_f := blkF hbA C_f
      replace hB := btF hB hbA
      clear hbA
      have C_w : (v1.alloc (.cells #[.int .i64 (s - n), .int .i64 r] 24)).heap[v1.heap.size]? = some (.cells #[.int .i64 (s - n), .int .i64 r] 24 (0, 0)) := heap_alloc_last v1 _
      obtain ⟨tf0, tf1, tf2, tf3⟩ := row2w C_f
      go_wp2_with fail
      refine (hIS _).mono ?_
      rintro e v2 ⟨rfl, hb⟩
      clear tf0 tf1 tf2 tf3
      replace C_f := blkF hb C_f
      replace C_w := blkF hb C_w
      replace hB := btF hB hb
      clear hb
      clear hIS
      have hbA : Below v2.heap.size v2 (v2.alloc (.cells #[.int .i64 (s - n), .int .i64 r] 24)) := ((Below.refl _ _).alloc (Nat.le_refl _) _)
      replace C_f := blkF hbA C_f
      replace C_w := blkF hbA C_w
      replace hB := btF hB hbA
      clear hbA
      have C_x : (v2.alloc (.cells #[.int .i64 (s - n), .int .i64 r] 24)).heap[v2.heap.size]? = some (.cells #[.int .i64 (s - n), .int .i64 r] 24 (0, 0)) := heap_alloc_last v2 _
      obtain ⟨tf0, tf1, tf2, tf3⟩ := row2w C_f
      obtain ⟨tw0, tw1, tw2, tw3⟩ := row2w C_w
      obtain ⟨tx0, tx1, tx2, tx3⟩ := row2w C_x
      go_wp2_with fail
      refine (hG1 _).mono ?_
      rintro e v3 ⟨rfl, hb⟩
      clear tf0 tf1 tf2 tf3 tw0 tw1 tw2 tw3 tx0 tx1 tx2 tx3
      replace C_f := blkF hb C_f
      replace C_w := blkF hb C_w
      replace C_x := blkF hb C_x
      replace hB := btF hB hb
      clear hb
      clear hG1
      have hbA : Below v3.heap.size v3 (v3.alloc (.cells #[.int .i64 (s - n), .int .i64 (r - k)] 24)) := ((Below.refl _ _).alloc (Nat.le_refl _) _)
      replace C_f := blkF hbA C_f
      replace C_w := blkF hbA C_w
      replace C_x := blkF hbA C_x
      replace hB := btF hB hbA
      clear hbA
      have C_a : (v3.alloc (.cells #[.int .i64 (s - n), .int .i64 (r - k)] 24)).heap[v3.heap.size]? = some (.cells #[.int .i64 (s - n), .int .i64 (r - k)] 24 (0, 0)) := heap_alloc_last v3 _
      obtain ⟨tf0, tf1, tf2, tf3⟩ := row2w C_f
      go_wp2_with fail
      refine (hG2 _).mono ?_
      rintro e v4 ⟨rfl, hb⟩
      clear tf0 tf1 tf2 tf3
      replace C_f := blkF hb C_f
      replace C_w := blkF hb C_w
      replace C_x := blkF hb C_x
      replace C_a := blkF hb C_a
      replace hB := btF hB hb
      clear hb
      clear hG2
      have hbA : Below v4.heap.size v4 (v4.alloc (.cells #[.int .i64 s, .int .i64 (r - k)] 24)) := ((Below.refl _ _).alloc (Nat.le_refl _) _)
      replace C_f := blkF hbA C_f
      replace C_w := blkF hbA C_w
      replace C_x := blkF hbA C_x
      replace C_a := blkF hbA C_a
      replace hB := btF hB hbA
      clear hbA
      have C_y : (v4.alloc (.cells #[.int .i64 s, .int .i64 (r - k)] 24)).heap[v4.heap.size]? = some (.cells #[.int .i64 s, .int .i64 (r - k)] 24 (0, 0)) := heap_alloc_last v4 _
      obtain ⟨ty0, ty1, ty2, ty3⟩ := row2w C_y
      go_wp2_with fail
      refine (hI3 _).mono ?_
      rintro e v5 ⟨rfl, hb⟩
      clear ty0 ty1 ty2 ty3
      replace C_f := blkF hb C_f
      replace C_w := blkF hb C_w
      replace C_x := blkF hb C_x
      replace C_a := blkF hb C_a
      replace C_y := blkF hb C_y
      replace hB := btF hB hb
      clear hb
      clear hI3
      have hbA : Below v5.heap.size v5 (v5.alloc (.cells #[.int .i64 (s - n), .int .i64 (r - k)] 24)) := ((Below.refl _ _).alloc (Nat.le_refl _) _)
      replace C_f := blkF hbA C_f
      replace C_w := blkF hbA C_w
      replace C_x := blkF hbA C_x
      replace C_a := blkF hbA C_a
      replace C_y := blkF hbA C_y
      replace hB := btF hB hbA
      clear hbA
      have C_b : (v5.alloc (.cells #[.int .i64 (s - n), .int .i64 (r - k)] 24)).heap[v5.heap.size]? = some (.cells #[.int .i64 (s - n), .int .i64 (r - k)] 24 (0, 0)) := heap_alloc_last v5 _
      obtain ⟨ta0, ta1, ta2, ta3⟩ := row2w C_a
      obtain ⟨tb0, tb1, tb2, tb3⟩ := row2w C_b
      go_wp2
      go_ret
      exact ⟨rfl, hB⟩
    · skip
      have hno1 := fun h : (flOk ⟨s - n, r⟩ = true ∧ 0 ≤ k ∧ k ≤ r) => hkr h.2.2
      have hno2 := fun h : (flOk ⟨s, r⟩ = true ∧ 0 ≤ k ∧ k ≤ r) => hkr h.2.2
      have hG1 := fun w => implFlowGot ⟨s - n, r⟩ k w
      rw [flGot_no hno1] at hG1
      unfold Fw.val at hG1
      dsimp only at hG1
      have hG2 := fun w => implFlowGot ⟨s, r⟩ k w
      rw [flGot_no hno2] at hG2
      unfold Fw.val at hG2
      dsimp only at hG2
      unfold zFw at hG1 hG2
      dsimp only at hG1 hG2
      clear hno1 hno2 ho ho2
      obtain ⟨tf0, tf1, tf2, tf3⟩ := row2w C_f
      go_wp2_with fail
      refine (hSS _).mono ?_
      rintro e v1 ⟨rfl, hb⟩
      clear tf0 tf1 tf2 tf3
      replace C_f := blkF hb C_f
      replace hB := btF hB hb
      clear hb
      clear hSS
      have hbA : Below v1.heap.size v1 (v1.alloc (.cells #[.int .i64 (s - n), .int .i64 r] 24)) := ((Below.refl _ _).alloc (Nat.le_refl _) _)
      replace C_f := blkF hbA C_f
      replace hB := btF hB hbA
      clear hbA
      have C_w : (v1.alloc (.cells #[.int .i64 (s - n), .int .i64 r] 24)).heap[v1.heap.size]? = some (.cells #[.int .i64 (s - n), .int .i64 r] 24 (0, 0)) := heap_alloc_last v1 _
      obtain ⟨tf0, tf1, tf2, tf3⟩ := row2w C_f
      go_wp2_with fail
      refine (hIS _).mono ?_
      rintro e v2 ⟨rfl, hb⟩
      clear tf0 tf1 tf2 tf3
      replace C_f := blkF hb C_f
      replace C_w := blkF hb C_w
      replace hB := btF hB hb
      clear hb
      clear hIS
      have hbA : Below v2.heap.size v2 (v2.alloc (.cells #[.int .i64 (s - n), .int .i64 r] 24)) := ((Below.refl _ _).alloc (Nat.le_refl _) _)
      replace C_f := blkF hbA C_f
      replace C_w := blkF hbA C_w
      replace hB := btF hB hbA
      clear hbA
      have C_x : (v2.alloc (.cells #[.int .i64 (s - n), .int .i64 r] 24)).heap[v2.heap.size]? = some (.cells #[.int .i64 (s - n), .int .i64 r] 24 (0, 0)) := heap_alloc_last v2 _
      obtain ⟨tf0, tf1, tf2, tf3⟩ := row2w C_f
      obtain ⟨tw0, tw1, tw2, tw3⟩ := row2w C_w
      obtain ⟨tx0, tx1, tx2, tx3⟩ := row2w C_x
      go_wp2_with fail
      refine (hG1 _).mono ?_
      rintro e v3 ⟨rfl, hb⟩
      clear tf0 tf1 tf2 tf3 tw0 tw1 tw2 tw3 tx0 tx1 tx2 tx3
      replace C_f := blkF hb C_f
      replace C_w := blkF hb C_w
      replace C_x := blkF hb C_x
      replace hB := btF hB hb
      clear hb
      clear hG1
      have hbA : Below v3.heap.size v3 (v3.alloc (.cells #[.int .i64 0, .int .i64 0] 24)) := ((Below.refl _ _).alloc (Nat.le_refl _) _)
      replace C_f := blkF hbA C_f
      replace C_w := blkF hbA C_w
      replace C_x := blkF hbA C_x
      replace hB := btF hB hbA
      clear hbA
      have C_a : (v3.alloc (.cells #[.int .i64 0, .int .i64 0] 24)).heap[v3.heap.size]? = some (.cells #[.int .i64 0, .int .i64 0] 24 (0, 0)) := heap_alloc_last v3 _
      obtain ⟨tf0, tf1, tf2, tf3⟩ := row2w C_f
      go_wp2_with fail
      refine (hG2 _).mono ?_
      rintro e v4 ⟨rfl, hb⟩
      clear tf0 tf1 tf2 tf3
      replace C_f := blkF hb C_f
      replace C_w := blkF hb C_w
      replace C_x := blkF hb C_x
      replace C_a := blkF hb C_a
      replace hB := btF hB hb
      clear hb
      clear hG2
      have hbA : Below v4.heap.size v4 (v4.alloc (.cells #[.int .i64 0, .int .i64 0] 24)) := ((Below.refl _ _).alloc (Nat.le_refl _) _)
      replace C_f := blkF hbA C_f
      replace C_w := blkF hbA C_w
      replace C_x := blkF hbA C_x
      replace C_a := blkF hbA C_a
      replace hB := btF hB hbA
      clear hbA
      have C_y : (v4.alloc (.cells #[.int .i64 0, .int .i64 0] 24)).heap[v4.heap.size]? = some (.cells #[.int .i64 0, .int .i64 0] 24 (0, 0)) := heap_alloc_last v4 _
      go_wp2
      go_ret
      exact ⟨rfl, hB⟩
  · skip
    have hSS := fun w => specFlowSend ⟨s, r⟩ n w
    rw [flSend_no hy] at hSS
    unfold Fw.val at hSS
    dsimp only at hSS
    have hIS := fun w => implFlowSend ⟨s, r⟩ n w
    rw [flSend_no hy] at hIS
    unfold Fw.val at hIS
    dsimp only at hIS
    unfold zFw at hSS hIS
    dsimp only at hSS hIS
    have heq := eqFw_run ⟨0, 0⟩ ⟨0, 0⟩
    rw [eqFw_self] at heq
    clear hy
    obtain ⟨tf0, tf1, tf2, tf3⟩ := row2w C_f
    go_wp2_with fail
    refine (hSS _).mono ?_
    rintro e v1 ⟨rfl, hb⟩
    clear tf0 tf1 tf2 tf3
    replace C_f := blkF hb C_f
    replace hB := btF hB hb
    clear hb
    clear hSS
    have hbA : Below v1.heap.size v1 (v1.alloc (.cells #[.int .i64 0, .int .i64 0] 24)) := ((Below.refl _ _).alloc (Nat.le_refl _) _)
    replace C_f := blkF hbA C_f
    replace hB := btF hB hbA
    clear hbA
    have C_w : (v1.alloc (.cells #[.int .i64 0, .int .i64 0] 24)).heap[v1.heap.size]? = some (.cells #[.int .i64 0, .int .i64 0] 24 (0, 0)) := heap_alloc_last v1 _
    obtain ⟨tf0, tf1, tf2, tf3⟩ := row2w C_f
    go_wp2_with fail
    refine (hIS _).mono ?_
    rintro e v2 ⟨rfl, hb⟩
    clear tf0 tf1 tf2 tf3
    replace C_f := blkF hb C_f
    replace C_w := blkF hb C_w
    replace hB := btF hB hb
    clear hb
    clear hIS
    have hbA : Below v2.heap.size v2 (v2.alloc (.cells #[.int .i64 0, .int .i64 0] 24)) := ((Below.refl _ _).alloc (Nat.le_refl _) _)
    replace C_f := blkF hbA C_f
    replace C_w := blkF hbA C_w
    replace hB := btF hB hbA
    clear hbA
    have C_x : (v2.alloc (.cells #[.int .i64 0, .int .i64 0] 24)).heap[v2.heap.size]? = some (.cells #[.int .i64 0, .int .i64 0] 24 (0, 0)) := heap_alloc_last v2 _
    obtain ⟨tw0, tw1, tw2, tw3⟩ := row2w C_w
    obtain ⟨tx0, tx1, tx2, tx3⟩ := row2w C_x
    go_wp2
    go_ret
    exact ⟨rfl, hB⟩
end Go.Proofs.Ytpgcmjbmkjnjnaa
