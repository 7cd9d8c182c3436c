import Derived.Test.YtpgcmjbmkjnjnaaFlL0
import Derived.Test.YtpgcmjbmkjnjnaaFlI
import Derived.Test.YtpgcmjbmkjnjnaaFlD2
import Derived.Deep.DeepCutAuto
import Derived.Deep.RegionHeld3
namespace Go.Proofs.Ytpgcmjbmkjnjnaa
open Go.RowKit
set_option linter.unusedVariables false

set_option maxRecDepth 100000 in
set_option maxHeartbeats 20000000 in
theorem fnFlowOk_walk (a0 : Option Addr) (len0 cap0 : Nat) (z0 : List Int) (a1 : Option Addr) (len1 cap1 : Nat) (z1 : List Int) (w : World) (w0 : Row w a0 len0 cap0 z0) (w1 : Row w a1 len1 cap1 z1) :
    Calls Try.prog 7 #[.slice a0 len0 cap0, .slice a1 len1 cap1] w fun e w' => e = .returned (.bool true) ∧ Below w.heap.size w w' := by
  by_cases c0 : (1048576 : Int) < len0
  · clear w0 w1
    go_enter Try.func7, Try.ntmps7
    go_wp2
    go_ret
    exact ⟨rfl, Below.refl _ _⟩
  by_cases c1 : (1048576 : Int) < len1
  · clear w0 w1
    go_enter Try.func7, Try.ntmps7
    go_wp2
    go_ret
    exact ⟨rfl, Below.refl _ _⟩
  have R0 : Hid (Row w a0 len0 cap0 z0) := w0
  have R1 : Hid (Row w a1 len1 cap1 z1) := w1
  clear w0 w1
  go_enter Try.func7, Try.ntmps7
  go_wp2_with fail
  refine (drawFlowOk _ _ _ _ _ R0.out).mono ?_
  rintro e w1 ⟨f, rfl, hd, hB⟩
  clear R0 R1
  obtain ⟨s, r⟩ := f
  obtain ⟨d0, d1, d2, d3⟩ := hd
  dsimp only at d0 d1 d2 d3
  unfold Fw.val
  dsimp only
  have hbA : Below w1.heap.size w1 (w1.alloc (.cells #[.int .i64 s, .int .i64 r] 24)) := ((Below.refl _ _).alloc (Nat.le_refl _) _)
  replace hB := btF hB hbA
  clear hbA
  have C_f : (w1.alloc (.cells #[.int .i64 s, .int .i64 r] 24)).heap[w1.heap.size]? = some (.cells #[.int .i64 s, .int .i64 r] 24 (0, 0)) := heap_alloc_last w1 _
  cases ho : flOk ⟨s, r⟩ with
  | false =>
    have hIO := fun w => implFlowOk ⟨s, r⟩ w
    rw [ho] at hIO
    unfold Fw.val at hIO
    dsimp only at hIO
    have hSO := fun w => specFlowOk ⟨s, r⟩ w
    rw [ho] at hSO
    unfold Fw.val at hSO
    dsimp only at hSO
    obtain ⟨tf0, tf1, tf2, tf3⟩ := row2w C_f
    go_wp2_with fail
    refine (hIO _).mono ?_
    rintro e v1 ⟨rfl, hb⟩
    clear tf0 tf1 tf2 tf3
    replace C_f := blkF hb C_f
    replace hB := btF hB hb
    clear hb
    clear hIO
    obtain ⟨tf0, tf1, tf2, tf3⟩ := row2w C_f
    go_wp2_with fail
    refine (hSO _).mono ?_
    rintro e v2 ⟨rfl, hb⟩
    clear tf0 tf1 tf2 tf3
    replace C_f := blkF hb C_f
    replace hB := btF hB hb
    clear hb
    obtain ⟨tf0, tf1, tf2, tf3⟩ := row2w C_f
    go_wp2_with fail
    refine (hSO _).mono ?_
    rintro e v3 ⟨rfl, hb⟩
    clear tf0 tf1 tf2 tf3
    replace C_f := blkF hb C_f
    replace hB := btF hB hb
    clear hb
    clear hSO
    go_wp2
    go_ret
    exact ⟨rfl, hB⟩
  | true =>
    have hbd := flOk_iff.1 ho
    dsimp only at hbd
    obtain ⟨⟨hs0, hs1⟩, hr0, hr1⟩ := hbd
    have hIO := fun w => implFlowOk ⟨s, r⟩ w
    rw [ho] at hIO
    unfold Fw.val at hIO
    dsimp only at hIO
    have hSO := fun w => specFlowOk ⟨s, r⟩ w
    rw [ho] at hSO
    unfold Fw.val at hSO
    dsimp only at hSO
    obtain ⟨k, hk⟩ : ∃ k : Int, (len1 : Int).tmod 32 = k := ⟨_, rfl⟩
    have hk' : (len1 : Int) % 32 = k := by rw [← hk, Int.tmod_eq_emod_of_nonneg (by omega)]
    have hk0 : 0 ≤ k := by omega
    have hk1 : k < 32 := by omega
    have ho1 : flOk ⟨k, r⟩ = true := flOk_iff.2 ⟨⟨hk0, by show k ≤ 31; omega⟩, hr0, hr1⟩
    have ho2 : flOk ⟨s, 32⟩ = false := flOk_no.2 (fun h => by have := h.2.2; dsimp only at this; omega)
    have ho3 : flOk ⟨-1, r⟩ = false := flOk_no.2 (fun h => by have := h.1.1; dsimp only at this; omega)
    have hX := fun w => implFlowOk ⟨k, r⟩ w
    rw [ho1] at hX
    unfold Fw.val at hX
    dsimp only at hX
    have hY := fun w => implFlowOk ⟨s, 32⟩ w
    rw [ho2] at hY
    unfold Fw.val at hY
    dsimp only at hY
    have hZ := fun w => implFlowOk ⟨-1, r⟩ w
    rw [ho3] at hZ
    unfold Fw.val at hZ
    dsimp only at hZ
    clear ho ho1 ho2 ho3
    obtain ⟨tf0, tf1, tf2, tf3⟩ := row2w C_f
    go_wp2_with fail
    refine (hIO _).mono ?_
    rintro e v1 ⟨rfl, hb⟩
    clear tf0 tf1 tf2 tf3
    replace C_f := blkF hb C_f
    replace hB := btF hB hb
    clear hb
    clear hIO
    obtain ⟨tf0, tf1, tf2, tf3⟩ := row2w C_f
    go_wp2_with fail
    refine (hSO _).mono ?_
    rintro e v2 ⟨rfl, hb⟩
    clear tf0 tf1 tf2 tf3
    replace C_f := blkF hb C_f
    replace hB := btF hB hb
    clear hb
    clear hSO
    obtain ⟨tf0, tf1, tf2, tf3⟩ := row2w C_f
    have hltf : w1.heap.size < v2.heap.size := (Array.getElem?_eq_some_iff.1 C_f).1
    have hne1 : ¬ w1.heap.size = v2.heap.size := by omega
    have hne2 : ¬ w1.heap.size = v2.heap.size + 1 := by omega
    go_upto_region 10 with fail
    clear tf0 tf1 tf2 tf3
    clear hltf hne1 hne2
    have hb1 : Below v2.heap.size v2 (v2.alloc (.cells #[.int .i64 k, .int .i64 r] 24)) := ((Below.refl _ _).alloc (Nat.le_refl _) _)
    have hb2 : Below (v2.alloc (.cells #[.int .i64 k, .int .i64 r] 24)).heap.size (v2.alloc (.cells #[.int .i64 k, .int .i64 r] 24)) ((v2.alloc (.cells #[.int .i64 k, .int .i64 r] 24)).alloc (.cells #[.int .i64 s, .int .i64 32] 24)) := ((Below.refl _ _).alloc (Nat.le_refl _) _)
    have hb3 : Below ((v2.alloc (.cells #[.int .i64 k, .int .i64 r] 24)).alloc (.cells #[.int .i64 s, .int .i64 32] 24)).heap.size ((v2.alloc (.cells #[.int .i64 k, .int .i64 r] 24)).alloc (.cells #[.int .i64 s, .int .i64 32] 24)) (((v2.alloc (.cells #[.int .i64 k, .int .i64 r] 24)).alloc (.cells #[.int .i64 s, .int .i64 32] 24)).alloc (.cells #[.int .i64 (-1), .int .i64 r] 24)) := ((Below.refl _ _).alloc (Nat.le_refl _) _)
    have C_x : (v2.alloc (.cells #[.int .i64 k, .int .i64 r] 24)).heap[v2.heap.size]? = some (.cells #[.int .i64 k, .int .i64 r] 24 (0, 0)) := heap_alloc_last v2 _
    have C_y : ((v2.alloc (.cells #[.int .i64 k, .int .i64 r] 24)).alloc (.cells #[.int .i64 s, .int .i64 32] 24)).heap[v2.heap.size + 1]? = some (.cells #[.int .i64 s, .int .i64 32] 24 (0, 0)) := by
      have h := heap_alloc_last (v2.alloc (.cells #[.int .i64 k, .int .i64 r] 24)) (.cells #[.int .i64 s, .int .i64 32] 24)
      rw [World.size_alloc] at h
      exact h
    have C_z : (((v2.alloc (.cells #[.int .i64 k, .int .i64 r] 24)).alloc (.cells #[.int .i64 s, .int .i64 32] 24)).alloc (.cells #[.int .i64 (-1), .int .i64 r] 24)).heap[v2.heap.size + 1 + 1]? = some (.cells #[.int .i64 (-1), .int .i64 r] 24 (0, 0)) := by
      have h := heap_alloc_last ((v2.alloc (.cells #[.int .i64 k, .int .i64 r] 24)).alloc (.cells #[.int .i64 s, .int .i64 32] 24)) (.cells #[.int .i64 (-1), .int .i64 r] 24)
      rw [World.size_alloc, World.size_alloc] at h
      exact h
    replace C_f := blkF hb3 (blkF hb2 (blkF hb1 C_f))
    replace C_x := blkF hb3 (blkF hb2 C_x)
    replace C_y := blkF hb3 C_y
    replace hB := btF (btF (btF hB hb1) hb2) hb3
    clear hb1 hb2 hb3
    generalize (((v2.alloc (.cells #[.int .i64 k, .int .i64 r] 24)).alloc (.cells #[.int .i64 s, .int .i64 32] 24)).alloc (.cells #[.int .i64 (-1), .int .i64 r] 24)) = V at C_f C_x C_y C_z hB ⊢
    obtain ⟨tx0, tx1, tx2, tx3⟩ := row2w C_x
    go_wp2_with fail
    refine (hX _).mono ?_
    rintro e v3 ⟨rfl, hb⟩
    clear tx0 tx1 tx2 tx3
    replace C_f := blkF hb C_f
    replace C_x := blkF hb C_x
    replace C_y := blkF hb C_y
    replace C_z := blkF hb C_z
    replace hB := btF hB hb
    clear hb
    clear hX
    obtain ⟨ty0, ty1, ty2, ty3⟩ := row2w C_y
    go_wp2_with fail
    refine (hY _).mono ?_
    rintro e v4 ⟨rfl, hb⟩
    clear ty0 ty1 ty2 ty3
    replace C_f := blkF hb C_f
    replace C_x := blkF hb C_x
    replace C_y := blkF hb C_y
    replace C_z := blkF hb C_z
    replace hB := btF hB hb
    clear hb
    clear hY
    obtain ⟨tz0, tz1, tz2, tz3⟩ := row2w C_z
    go_wp2_with fail
    refine (hZ _).mono ?_
    rintro e v5 ⟨rfl, hb⟩
    clear tz0 tz1 tz2 tz3
    replace C_f := blkF hb C_f
    replace C_x := blkF hb C_x
    replace C_y := blkF hb C_y
    replace C_z := blkF hb C_z
    replace hB := btF hB hb
    clear hb
    clear hZ
    go_wp2
    go_ret
    exact ⟨rfl, hB⟩
end Go.Proofs.Ytpgcmjbmkjnjnaa
