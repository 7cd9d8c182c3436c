import Derived.Test.YtmegdgkpdonikaaDoorFI1
import Derived.Deep.RegionHeld3
namespace Go.Proofs.YtmegdgkpdonikaaDoor
open Go.RowKit
set_option linter.unusedVariables false

theorem convert_four {P : Program} {e src dst : TypeId}
    (hs : P.underlying src = some (.slice e)) (he : P.underlying e = some (.int .u8)) (hd : P.underlying dst = some .string) (a b c d : Int) (w : World) :
    (convert src dst (.slice (some ⟨w.heap.size, 0, none⟩) 4 4)).run P (w.alloc (.cells #[.int .u8 a, .int .u8 b, .int .u8 c, .int .u8 d] e)) = .ok (.string (strOfNums [a, b, c, d])) (w.alloc (.cells #[.int .u8 a, .int .u8 b, .int .u8 c, .int .u8 d] e)) := by
  refine run_convert_bytes_arg _ src e hs he w.heap.size 0 4 4 [a, b, c, d] rfl ?_ dst hd
  intro i hi
  rcases (by omega : i = 0 ∨ i = 1 ∨ i = 2 ∨ i = 3) with rfl | rfl | rfl | rfl <;> simp
theorem convert_four_drew {P : Program} {e src dst : TypeId}
    (hs : P.underlying src = some (.slice e)) (he : P.underlying e = some (.int .u8)) (hd : P.underlying dst = some .string) (a b c d : Int) (w : World) :
    (convert src dst (.slice (some ⟨w.heap.size, 0, none⟩) 4 4)).run P (w.drew.alloc (.cells #[.int .u8 a, .int .u8 b, .int .u8 c, .int .u8 d] e)) = .ok (.string (strOfNums [a, b, c, d])) (w.drew.alloc (.cells #[.int .u8 a, .int .u8 b, .int .u8 c, .int .u8 d] e)) :=
  convert_four hs he hd a b c d w.drew
theorem hltF {w w1 : World} {o : Obj} (h : Below (w.alloc o).heap.size (w.alloc o) w1) : w.heap.size < w1.heap.size := by have := h.size; rw [World.size_alloc] at this; omega
theorem frB_four (k s : Int) (l : Bool) (b : ByteArray) : strOfNums [(b.size : Int), k, lastI l, s] ++ b = frB ⟨k, l, s, b⟩ := by
  conv => lhs; rw [← strOfNums_bytesL b]
  rw [strOfNums_append]
  unfold frB frL
  rw [strOfNums_bytesL]
  rfl

set_option maxRecDepth 100000 in
set_option maxHeartbeats 2000000 in
theorem implFrameWrite (f : Fr) (w : World) (hb : f.b.size ≤ maxLen) :
    Calls Tryd.prog 10 #[f.val] w fun e w' => e = .returned (.string (frWr f)) ∧ Below w.heap.size w w' := by
  have hok := fun w => implFrameOk f w hb
  have hB : Below w.heap.size w (w.alloc (.cells #[.int .i64 f.k, .bool f.l, .int .i64 f.s, .string f.b] 24)) := (Below.refl _ _).alloc (Nat.le_refl _) _
  have c0 : ∀ w1, Below (w.alloc (.cells #[.int .i64 f.k, .bool f.l, .int .i64 f.s, .string f.b] 24)).heap.size (w.alloc (.cells #[.int .i64 f.k, .bool f.l, .int .i64 f.s, .string f.b] 24)) w1 → w1.cell? ⟨w.heap.size, 0, none⟩ = some (.int .i64 f.k) ∧ w1.cell? ⟨w.heap.size, 1, none⟩ = some (.bool f.l) ∧ w1.cell? ⟨w.heap.size, 2, none⟩ = some (.int .i64 f.s) ∧ w1.cell? ⟨w.heap.size, 3, none⟩ = some (.string f.b) := fun w1 h => ⟨keepF h (by simp), keepF h (by simp), keepF h (by simp), keepF h (by simp)⟩
  have HC : Hid _ := c0
  clear c0
  cases h : frOk f with
  | false =>
    rw [h] at hok
    rw [frWr_bad h]
    clear h hb HC
    unfold Fr.val at hok ⊢
    go_enter Tryd.func10, Tryd.ntmps10
    go_wp2_with (go_at_call 15; refine (hok _).mono ?_; clear hok; rintro e w1 ⟨rfl, hb1⟩)
    go_ret
    exact ⟨rfl, btF hB hb1⟩
  | true =>
    rw [h] at hok
    rw [frWr_ok h]
    have hbd := frOk_bd h
    obtain ⟨k, l, s, b⟩ := f
    dsimp only at *
    obtain ⟨k0, k1, s0, s1, b1⟩ := hbd
    rw [← frB_four]
    have g0 : (b.size : Int) ≤ 200 := by omega
    have g1 : ¬ 9223372036854775807 < 4 + b.size := by omega
    have g2 : 4 + b.size ≤ 9223372036854775807 := by omega
    have hsz : ∀ a b c d, (strOfNums [a, b, c, d]).size = 4 := fun _ _ _ _ => rfl
    have hcv := fun a b c d w => convert_four (P := Tryd.prog) Tryd.underlying22 Tryd.underlying5 Tryd.underlying9 a b c d w
    have hcd := fun a b c d w => convert_four_drew (P := Tryd.prog) Tryd.underlying22 Tryd.underlying5 Tryd.underlying9 a b c d w
    clear h hb
    unfold Fr.val at hok ⊢
    cases l
    all_goals
      unfold lastI
      simp only [Bool.false_eq_true, if_false, if_true]
      go_enter Tryd.func10, Tryd.ntmps10
      go_wp2_with (go_at_call 15; refine (hok _).mono ?_; clear hok; rintro e w1 ⟨rfl, hb1⟩; obtain ⟨c0, c1, c2, c3⟩ := HC.out _ hb1; have hz := hltF hb1)
      have k0' : k ≤ 255 := by omega
      have s0' : s ≤ 255 := by omega
      all_goals
        go_wp2
        go_ret
        exact ⟨rfl, btF (btF hB hb1) (by go_grown)⟩
end Go.Proofs.YtmegdgkpdonikaaDoor
