import Derived.Test.YtpgcmjbmkjnjnaaFlL0
import Derived.Test.YtpgcmjbmkjnjnaaFlI
import Derived.Test.YtpgcmjbmkjnjnaaFlD2
import Derived.Deep.DeepCutAuto
import Derived.Deep.RegionHeld3
namespace Go.Proofs.Ytpgcmjbmkjnjnaa
open Go.RowKit
set_option linter.unusedVariables false

set_option maxRecDepth 100000 in
set_option maxHeartbeats 20000000 in
theorem fnFlowGot_walk (a0 : Option Addr) (len0 cap0 : Nat) (z0 : List Int) (w : World) (w0 : Row w a0 len0 cap0 z0) :
    Calls Try.prog 5 #[.slice a0 len0 cap0] w fun e w' => e = .returned (.bool true) ∧ Below w.heap.size w w' := by
  by_cases c0 : (1048576 : Int) < len0
  · clear w0
    go_enter Try.func5, Try.ntmps5
    go_wp2
    go_ret
    exact ⟨rfl, Below.refl _ _⟩
  have R0 : Hid (Row w a0 len0 cap0 z0) := w0
  clear w0
  go_enter Try.func5, Try.ntmps5
  go_wp2_with fail
  refine (drawFlowGot _ _ _ _ _ R0.out).mono ?_
  rintro e w1 ⟨f, n, rfl, hd, n0, n1, hB⟩
  clear R0
  obtain ⟨s, r⟩ := f
  obtain ⟨d0, d1, d2, d3⟩ := hd
  dsimp only at d0 d1 d2 d3
  unfold Fw.val
  dsimp only
  have hbA : Below w1.heap.size w1 (w1.alloc (.cells #[.int .i64 s, .int .i64 r] 24)) := ((Below.refl _ _).alloc (Nat.le_refl _) _)
  replace hB := btF hB hbA
  clear hbA
  have C_f : (w1.alloc (.cells #[.int .i64 s, .int .i64 r] 24)).heap[w1.heap.size]? = some (.cells #[.int .i64 s, .int .i64 r] 24 (0, 0)) := heap_alloc_last w1 _
  by_cases ho : flOk ⟨s, r⟩ = true
  · have hbd := flOk_iff.1 ho
    dsimp only at hbd
    obtain ⟨⟨hs0, hs1⟩, hr0, hr1⟩ := hbd
    by_cases hn : 0 ≤ n ∧ n ≤ r
    · obtain ⟨hn0, hn1⟩ := hn
      have hSS := fun w => specFlowGot ⟨s, r⟩ n w
      rw [flGot_yes ho hn0 hn1] at hSS
      unfold Fw.val at hSS
      dsimp only at hSS
      have hIS := fun w => implFlowGot ⟨s, r⟩ n w
      rw [flGot_yes ho hn0 hn1] at hIS
      unfold Fw.val at hIS
      dsimp only at hIS
      have hSO := fun w => specFlowOk ⟨s, r⟩ w
      rw [ho] at hSO
      unfold Fw.val at hSO
      dsimp only at hSO
      have heq := eqFw_run ⟨s, r - n⟩ ⟨s, r - n⟩
      rw [eqFw_self] at heq
      have hw3 : IntKind.i64.wrap (r - n) = r - n := by rw [IntKind.wrap_i64]; omega
      have ho2 : flOk ⟨s, r - n⟩ = true := flOk_iff.2 ⟨⟨hs0, hs1⟩, by show 0 ≤ r - n; omega, by show r - n ≤ 31; omega⟩
      have hgv : flGive ⟨s, r - n⟩ r = (⟨s, r⟩, n) := by
        by_cases hz : r - n < r
        · rw [flGive_less ho2 hr0 hr1 hz, show r - (⟨s, r - n⟩ : Fw).r = n by show r - (r - n) = n; omega]
        · rw [flGive_same ho2 hr0 hr1 hz, show n = 0 by omega, show r - 0 = r by omega]
      have hI1 := fun w => implFlowGive ⟨s, r - n⟩ r w
      rw [hgv] at hI1
      unfold Fw.val at hI1
      dsimp only at hI1
      have heq2 := eqFw_run ⟨s, r⟩ ⟨s, r⟩
      rw [eqFw_self] at heq2
      clear ho ho2 hgv
      obtain ⟨tf0, tf1, tf2, tf3⟩ := row2w C_f
      go_wp2_with fail
      refine (hSS _).mono ?_
      rintro e v1 ⟨rfl, hb⟩
      clear tf0 tf1 tf2 tf3
      replace C_f := blkF hb C_f
      replace hB := btF hB hb
      clear hb
      clear hSS
      have hbA : Below v1.heap.size v1 (v1.alloc (.cells #[.int .i64 s, .int .i64 (r - n)] 24)) := ((Below.refl _ _).alloc (Nat.le_refl _) _)
      replace C_f := blkF hbA C_f
      replace hB := btF hB hbA
      clear hbA
      have C_w : (v1.alloc (.cells #[.int .i64 s, .int .i64 (r - n)] 24)).heap[v1.heap.size]? = some (.cells #[.int .i64 s, .int .i64 (r - n)] 24 (0, 0)) := heap_alloc_last v1 _
      obtain ⟨tf0, tf1, tf2, tf3⟩ := row2w C_f
      go_wp2_with fail
      refine (hIS _).mono ?_
      rintro e v2 ⟨rfl, hb⟩
      clear tf0 tf1 tf2 tf3
      replace C_f := blkF hb C_f
      replace C_w := blkF hb C_w
      replace hB := btF hB hb
      clear hb
      clear hIS
      have hbA : Below v2.heap.size v2 (v2.alloc (.cells #[.int .i64 s, .int .i64 (r - n)] 24)) := ((Below.refl _ _).alloc (Nat.le_refl _) _)
      replace C_f := blkF hbA C_f
      replace C_w := blkF hbA C_w
      replace hB := btF hB hbA
      clear hbA
      have C_x : (v2.alloc (.cells #[.int .i64 s, .int .i64 (r - n)] 24)).heap[v2.heap.size]? = some (.cells #[.int .i64 s, .int .i64 (r - n)] 24 (0, 0)) := heap_alloc_last v2 _
      obtain ⟨tf0, tf1, tf2, tf3⟩ := row2w C_f
      obtain ⟨tw0, tw1, tw2, tw3⟩ := row2w C_w
      obtain ⟨tx0, tx1, tx2, tx3⟩ := row2w C_x
      go_wp2_with fail
      refine (hSO _).mono ?_
      rintro e v3 ⟨rfl, hb⟩
      clear tf0 tf1 tf2 tf3 tw0 tw1 tw2 tw3 tx0 tx1 tx2 tx3
      replace C_f := blkF hb C_f
      replace C_w := blkF hb C_w
      replace C_x := blkF hb C_x
      replace hB := btF hB hb
      clear hb
      clear hSO
      obtain ⟨tf0, tf1, tf2, tf3⟩ := row2w C_f
      obtain ⟨tx0, tx1, tx2, tx3⟩ := row2w C_x
      go_wp2_with fail
      refine (hI1 _).mono ?_
      rintro e v4 ⟨rfl, hb⟩
      clear tf0 tf1 tf2 tf3 tx0 tx1 tx2 tx3
      replace C_f := blkF hb C_f
      replace C_w := blkF hb C_w
      replace C_x := blkF hb C_x
      replace hB := btF hB hb
      clear hb
      clear hI1
      have hbA : Below v4.heap.size v4 (v4.alloc (.cells #[.int .i64 s, .int .i64 r] 24)) := ((Below.refl _ _).alloc (Nat.le_refl _) _)
      replace C_f := blkF hbA C_f
      replace C_w := blkF hbA C_w
      replace C_x := blkF hbA C_x
      replace hB := btF hB hbA
      clear hbA
      have C_y : (v4.alloc (.cells #[.int .i64 s, .int .i64 r] 24)).heap[v4.heap.size]? = some (.cells #[.int .i64 s, .int .i64 r] 24 (0, 0)) := heap_alloc_last v4 _
      obtain ⟨tf0, tf1, tf2, tf3⟩ := row2w C_f
      obtain ⟨tx0, tx1, tx2, tx3⟩ := row2w C_x
      obtain ⟨ty0, ty1, ty2, ty3⟩ := row2w C_y
      go_wp2
      go_ret
      exact ⟨rfl, hB⟩
    · have hno := fun h : (flOk ⟨s, r⟩ = true ∧ 0 ≤ n ∧ n ≤ r) => hn h.2
      have hSS := fun w => specFlowGot ⟨s, r⟩ n w
      rw [flGot_no hno] at hSS
      unfold Fw.val at hSS
      dsimp only at hSS
      have hIS := fun w => implFlowGot ⟨s, r⟩ n w
      rw [flGot_no hno] at hIS
      unfold Fw.val at hIS
      dsimp only at hIS
      unfold zFw at hSS hIS
      dsimp only at hSS hIS
      have hSO := fun w => specFlowOk ⟨s, r⟩ w
      rw [ho] at hSO
      unfold Fw.val at hSO
      dsimp only at hSO
      have heq := eqFw_run ⟨0, 0⟩ ⟨0, 0⟩
      rw [eqFw_self] at heq
      clear hno
      obtain ⟨tf0, tf1, tf2, tf3⟩ := row2w C_f
      go_wp2_with fail
      refine (hSS _).mono ?_
      rintro e v1 ⟨rfl, hb⟩
      clear tf0 tf1 tf2 tf3
      replace C_f := blkF hb C_f
      replace hB := btF hB hb
      clear hb
      clear hSS
      have hbA : Below v1.heap.size v1 (v1.alloc (.cells #[.int .i64 0, .int .i64 0] 24)) := ((Below.refl _ _).alloc (Nat.le_refl _) _)
      replace C_f := blkF hbA C_f
      replace hB := btF hB hbA
      clear hbA
      have C_w : (v1.alloc (.cells #[.int .i64 0, .int .i64 0] 24)).heap[v1.heap.size]? = some (.cells #[.int .i64 0, .int .i64 0] 24 (0, 0)) := heap_alloc_last v1 _
      obtain ⟨tf0, tf1, tf2, tf3⟩ := row2w C_f
      go_wp2_with fail
      refine (hIS _).mono ?_
      rintro e v2 ⟨rfl, hb⟩
      clear tf0 tf1 tf2 tf3
      replace C_f := blkF hb C_f
      replace C_w := blkF hb C_w
      replace hB := btF hB hb
      clear hb
      clear hIS
      have hbA : Below v2.heap.size v2 (v2.alloc (.cells #[.int .i64 0, .int .i64 0] 24)) := ((Below.refl _ _).alloc (Nat.le_refl _) _)
      replace C_f := blkF hbA C_f
      replace C_w := blkF hbA C_w
      replace hB := btF hB hbA
      clear hbA
      have C_x : (v2.alloc (.cells #[.int .i64 0, .int .i64 0] 24)).heap[v2.heap.size]? = some (.cells #[.int .i64 0, .int .i64 0] 24 (0, 0)) := heap_alloc_last v2 _
      obtain ⟨tf0, tf1, tf2, tf3⟩ := row2w C_f
      obtain ⟨tw0, tw1, tw2, tw3⟩ := row2w C_w
      obtain ⟨tx0, tx1, tx2, tx3⟩ := row2w C_x
      go_wp2_with fail
      refine (hSO _).mono ?_
      rintro e v3 ⟨rfl, hb⟩
      clear tf0 tf1 tf2 tf3 tw0 tw1 tw2 tw3 tx0 tx1 tx2 tx3
      replace C_f := blkF hb C_f
      replace C_w := blkF hb C_w
      replace C_x := blkF hb C_x
      replace hB := btF hB hb
      clear hb
      clear hSO
      obtain ⟨tf0, tf1, tf2, tf3⟩ := row2w C_f
      obtain ⟨tw0, tw1, tw2, tw3⟩ := row2w C_w
      obtain ⟨tx0, tx1, tx2, tx3⟩ := row2w C_x
      rcases (by omega : n < 0 ∨ (0 ≤ n ∧ r < n)) with hx | hx
      · go_wp2
        go_ret
        exact ⟨rfl, hB⟩
      all_goals
        (try obtain ⟨hx0, hx1⟩ := hx)
        go_wp2
        go_ret
        exact ⟨rfl, hB⟩
  · have hno := fun h : (flOk ⟨s, r⟩ = true ∧ 0 ≤ n ∧ n ≤ r) => ho h.1
    have hSS := fun w => specFlowGot ⟨s, r⟩ n w
    rw [flGot_no hno] at hSS
    unfold Fw.val at hSS
    dsimp only at hSS
    have hIS := fun w => implFlowGot ⟨s, r⟩ n w
    rw [flGot_no hno] at hIS
    unfold Fw.val at hIS
    dsimp only at hIS
    unfold zFw at hSS hIS
    dsimp only at hSS hIS
    have hSO := fun w => specFlowOk ⟨s, r⟩ w
    rw [(by simpa using ho : flOk ⟨s, r⟩ = false)] at hSO
    unfold Fw.val at hSO
    dsimp only at hSO
    have heq := eqFw_run ⟨0, 0⟩ ⟨0, 0⟩
    rw [eqFw_self] at heq
    clear hno
    obtain ⟨tf0, tf1, tf2, tf3⟩ := row2w C_f
    go_wp2_with fail
    refine (hSS _).mono ?_
    rintro e v1 ⟨rfl, hb⟩
    clear tf0 tf1 tf2 tf3
    replace C_f := blkF hb C_f
    replace hB := btF hB hb
    clear hb
    clear hSS
    have hbA : Below v1.heap.size v1 (v1.alloc (.cells #[.int .i64 0, .int .i64 0] 24)) := ((Below.refl _ _).alloc (Nat.le_refl _) _)
    replace C_f := blkF hbA C_f
    replace hB := btF hB hbA
    clear hbA
    have C_w : (v1.alloc (.cells #[.int .i64 0, .int .i64 0] 24)).heap[v1.heap.size]? = some (.cells #[.int .i64 0, .int .i64 0] 24 (0, 0)) := heap_alloc_last v1 _
    obtain ⟨tf0, tf1, tf2, tf3⟩ := row2w C_f
    go_wp2_with fail
    refine (hIS _).mono ?_
    rintro e v2 ⟨rfl, hb⟩
    clear tf0 tf1 tf2 tf3
    replace C_f := blkF hb C_f
    replace C_w := blkF hb C_w
    replace hB := btF hB hb
    clear hb
    clear hIS
    have hbA : Below v2.heap.size v2 (v2.alloc (.cells #[.int .i64 0, .int .i64 0] 24)) := ((Below.refl _ _).alloc (Nat.le_refl _) _)
    replace C_f := blkF hbA C_f
    replace C_w := blkF hbA C_w
    replace hB := btF hB hbA
    clear hbA
    have C_x : (v2.alloc (.cells #[.int .i64 0, .int .i64 0] 24)).heap[v2.heap.size]? = some (.cells #[.int .i64 0, .int .i64 0] 24 (0, 0)) := heap_alloc_last v2 _
    obtain ⟨tf0, tf1, tf2, tf3⟩ := row2w C_f
    obtain ⟨tw0, tw1, tw2, tw3⟩ := row2w C_w
    obtain ⟨tx0, tx1, tx2, tx3⟩ := row2w C_x
    go_wp2_with fail
    refine (hSO _).mono ?_
    rintro e v3 ⟨rfl, hb⟩
    clear tf0 tf1 tf2 tf3 tw0 tw1 tw2 tw3 tx0 tx1 tx2 tx3
    replace C_f := blkF hb C_f
    replace C_w := blkF hb C_w
    replace C_x := blkF hb C_x
    replace hB := btF hB hb
    clear hb
    clear hSO
    obtain ⟨tf0, tf1, tf2, tf3⟩ := row2w C_f
    obtain ⟨tw0, tw1, tw2, tw3⟩ := row2w C_w
    obtain ⟨tx0, tx1, tx2, tx3⟩ := row2w C_x
    go_wp2
    go_ret
    exact ⟨rfl, hB⟩
end Go.Proofs.Ytpgcmjbmkjnjnaa
