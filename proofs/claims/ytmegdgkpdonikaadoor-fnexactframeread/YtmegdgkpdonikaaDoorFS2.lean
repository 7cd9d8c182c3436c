import Derived.Test.YtmegdgkpdonikaaDoorFS
import Derived.Deep.RegionHeld3
namespace Go.Proofs.YtmegdgkpdonikaaDoor
open Go.RowKit
set_option linter.unusedVariables false

theorem keepF {w1 w2 : World} {p : Addr} {v : Value} (hb : Below w1.heap.size w1 w2) (h : w1.cell? p = some v) : w2.cell? p = some v := (hb.cell (World.block_lt_of_cell? w1 _ h)).trans h
theorem btF {w a b : World} (h1 : Below w.heap.size w a) (h2 : Below a.heap.size a b) : Below w.heap.size w b := h1.trans (h2.mono h1.size)
theorem frB_eq (k s : Int) (l : Bool) (b : ByteArray) : strOfNums [(b.size : Int)] ++ strOfNums [k] ++ strOfNums [lastI l] ++ strOfNums [s] ++ b = frB ⟨k, l, s, b⟩ := by
  conv => lhs; rw [← strOfNums_bytesL b]
  rw [strOfNums_append, strOfNums_append, strOfNums_append, strOfNums_append]
  unfold frB frL
  rw [strOfNums_bytesL]
  rfl

set_option maxRecDepth 100000 in
set_option maxHeartbeats 2000000 in
theorem l12Write_true (k s : Int) (b : ByteArray) (w : World) (hk0 : 0 ≤ k) (hk1 : k ≤ 255) (hs0 : 0 ≤ s) (hs1 : s ≤ 255) (hb1 : b.size ≤ 255) :
    Calls Tryd.prog 21 #[.agg #[.int .i64 k, .bool true, .int .i64 s, .string b]] w fun e w' => e = .returned (.string (frB ⟨k, true, s, b⟩)) ∧ Below w.heap.size w w' := by
  rw [← frB_eq]
  have hmx : Tryd.prog.follows .mixedOrders = true := by kernel_rfl
  have hone : ∀ x, (strOfNums [x]).size = 1 := fun _ => rfl
  have g1 : ¬ 9223372036854775807 < 4 + b.size := by omega
  have g2 : 4 + b.size ≤ 9223372036854775807 := by omega
  have g3 : b.size ≤ 9223372036854775803 := by omega
  have g4 : ¬ 9223372036854775803 < b.size := by omega
  have g5 : ¬ 9223372036854775807 < 1 + 1 + 1 + 1 + b.size := by omega
  have hBw : Below w.heap.size w (w.alloc (.cells #[.int .i64 k, .bool true, .int .i64 s, .string b] 24)) := (Below.refl _ _).alloc (Nat.le_refl _) _
  have hkeepV : ∀ w1 w2 : World, Below w1.heap.size w1 w2 → (w1.cell? ⟨w.heap.size, 0, none⟩ = some (.int .i64 k) ∧ w1.cell? ⟨w.heap.size, 1, none⟩ = some (.bool true) ∧ w1.cell? ⟨w.heap.size, 2, none⟩ = some (.int .i64 s) ∧ w1.cell? ⟨w.heap.size, 3, none⟩ = some (.string b) ∧ Below (w.alloc (.cells #[.int .i64 k, .bool true, .int .i64 s, .string b] 24)).heap.size (w.alloc (.cells #[.int .i64 k, .bool true, .int .i64 s, .string b] 24)) w1) → (w2.cell? ⟨w.heap.size, 0, none⟩ = some (.int .i64 k) ∧ w2.cell? ⟨w.heap.size, 1, none⟩ = some (.bool true) ∧ w2.cell? ⟨w.heap.size, 2, none⟩ = some (.int .i64 s) ∧ w2.cell? ⟨w.heap.size, 3, none⟩ = some (.string b) ∧ Below (w.alloc (.cells #[.int .i64 k, .bool true, .int .i64 s, .string b] 24)).heap.size (w.alloc (.cells #[.int .i64 k, .bool true, .int .i64 s, .string b] 24)) w2) := by
    rintro w1 w2 hb ⟨h0, h1, h2, h3, hB⟩
    exact ⟨keepF hb h0, keepF hb h1, keepF hb h2, keepF hb h3, btF hB hb⟩
  have hBelV : ∀ w' : World, (w'.cell? ⟨w.heap.size, 0, none⟩ = some (.int .i64 k) ∧ w'.cell? ⟨w.heap.size, 1, none⟩ = some (.bool true) ∧ w'.cell? ⟨w.heap.size, 2, none⟩ = some (.int .i64 s) ∧ w'.cell? ⟨w.heap.size, 3, none⟩ = some (.string b) ∧ Below (w.alloc (.cells #[.int .i64 k, .bool true, .int .i64 s, .string b] 24)).heap.size (w.alloc (.cells #[.int .i64 k, .bool true, .int .i64 s, .string b] 24)) w') → Below (w.alloc (.cells #[.int .i64 k, .bool true, .int .i64 s, .string b] 24)).heap.size (w.alloc (.cells #[.int .i64 k, .bool true, .int .i64 s, .string b] 24)) w' := fun w' h => h.2.2.2.2
  have hV0 : (w.alloc (.cells #[.int .i64 k, .bool true, .int .i64 s, .string b] 24)).cell? ⟨w.heap.size, 0, none⟩ = some (.int .i64 k) ∧ (w.alloc (.cells #[.int .i64 k, .bool true, .int .i64 s, .string b] 24)).cell? ⟨w.heap.size, 1, none⟩ = some (.bool true) ∧ (w.alloc (.cells #[.int .i64 k, .bool true, .int .i64 s, .string b] 24)).cell? ⟨w.heap.size, 2, none⟩ = some (.int .i64 s) ∧ (w.alloc (.cells #[.int .i64 k, .bool true, .int .i64 s, .string b] 24)).cell? ⟨w.heap.size, 3, none⟩ = some (.string b) ∧ Below (w.alloc (.cells #[.int .i64 k, .bool true, .int .i64 s, .string b] 24)).heap.size (w.alloc (.cells #[.int .i64 k, .bool true, .int .i64 s, .string b] 24)) (w.alloc (.cells #[.int .i64 k, .bool true, .int .i64 s, .string b] 24)) := ⟨by simp, by simp, by simp, by simp, Below.refl _ _⟩
  go_enter Tryd.func21, Tryd.ntmps21
  go_wp2
  go_region_held3 (fun w' => w'.cell? ⟨w.heap.size, 0, none⟩ = some (.int .i64 k) ∧ w'.cell? ⟨w.heap.size, 1, none⟩ = some (.bool true) ∧ w'.cell? ⟨w.heap.size, 2, none⟩ = some (.int .i64 s) ∧ w'.cell? ⟨w.heap.size, 3, none⟩ = some (.string b) ∧ Below (w.alloc (.cells #[.int .i64 k, .bool true, .int .i64 s, .string b] 24)).heap.size (w.alloc (.cells #[.int .i64 k, .bool true, .int .i64 s, .string b] 24)) w') (first | assumption | exact hkeepV _ _ ((Below.refl _ _).drew) hV0 | exact hkeepV _ _ hbN (by assumption)) ((first | (go_at_call 25; refine (l1Byte_any _ _ (by omega) (by omega)).mono ?_; rintro e wN ⟨rfl, hbN⟩)))
  have hV1 : wN.cell? ⟨w.heap.size, 0, none⟩ = some (.int .i64 k) ∧ wN.cell? ⟨w.heap.size, 1, none⟩ = some (.bool true) ∧ wN.cell? ⟨w.heap.size, 2, none⟩ = some (.int .i64 s) ∧ wN.cell? ⟨w.heap.size, 3, none⟩ = some (.string b) ∧ Below (w.alloc (.cells #[.int .i64 k, .bool true, .int .i64 s, .string b] 24)).heap.size (w.alloc (.cells #[.int .i64 k, .bool true, .int .i64 s, .string b] 24)) wN := by first | assumption | exact hkeepV _ _ hbN (by assumption)
  go_wp2
  go_ret
  exact ⟨rfl, btF hBw (hBelV _ hV1)⟩

set_option maxRecDepth 100000 in
set_option maxHeartbeats 2000000 in
theorem l12Write_false (k s : Int) (b : ByteArray) (w : World) (hk0 : 0 ≤ k) (hk1 : k ≤ 255) (hs0 : 0 ≤ s) (hs1 : s ≤ 255) (hb1 : b.size ≤ 255) :
    Calls Tryd.prog 21 #[.agg #[.int .i64 k, .bool false, .int .i64 s, .string b]] w fun e w' => e = .returned (.string (frB ⟨k, false, s, b⟩)) ∧ Below w.heap.size w w' := by
  rw [← frB_eq]
  have hmx : Tryd.prog.follows .mixedOrders = true := by kernel_rfl
  have hone : ∀ x, (strOfNums [x]).size = 1 := fun _ => rfl
  have g1 : ¬ 9223372036854775807 < 4 + b.size := by omega
  have g2 : 4 + b.size ≤ 9223372036854775807 := by omega
  have g3 : b.size ≤ 9223372036854775803 := by omega
  have g4 : ¬ 9223372036854775803 < b.size := by omega
  have g5 : ¬ 9223372036854775807 < 1 + 1 + 1 + 1 + b.size := by omega
  have hBw : Below w.heap.size w (w.alloc (.cells #[.int .i64 k, .bool false, .int .i64 s, .string b] 24)) := (Below.refl _ _).alloc (Nat.le_refl _) _
  have hkeepV : ∀ w1 w2 : World, Below w1.heap.size w1 w2 → (w1.cell? ⟨w.heap.size, 0, none⟩ = some (.int .i64 k) ∧ w1.cell? ⟨w.heap.size, 1, none⟩ = some (.bool false) ∧ w1.cell? ⟨w.heap.size, 2, none⟩ = some (.int .i64 s) ∧ w1.cell? ⟨w.heap.size, 3, none⟩ = some (.string b) ∧ Below (w.alloc (.cells #[.int .i64 k, .bool false, .int .i64 s, .string b] 24)).heap.size (w.alloc (.cells #[.int .i64 k, .bool false, .int .i64 s, .string b] 24)) w1) → (w2.cell? ⟨w.heap.size, 0, none⟩ = some (.int .i64 k) ∧ w2.cell? ⟨w.heap.size, 1, none⟩ = some (.bool false) ∧ w2.cell? ⟨w.heap.size, 2, none⟩ = some (.int .i64 s) ∧ w2.cell? ⟨w.heap.size, 3, none⟩ = some (.string b) ∧ Below (w.alloc (.cells #[.int .i64 k, .bool false, .int .i64 s, .string b] 24)).heap.size (w.alloc (.cells #[.int .i64 k, .bool false, .int .i64 s, .string b] 24)) w2) := by
    rintro w1 w2 hb ⟨h0, h1, h2, h3, hB⟩
    exact ⟨keepF hb h0, keepF hb h1, keepF hb h2, keepF hb h3, btF hB hb⟩
  have hBelV : ∀ w' : World, (w'.cell? ⟨w.heap.size, 0, none⟩ = some (.int .i64 k) ∧ w'.cell? ⟨w.heap.size, 1, none⟩ = some (.bool false) ∧ w'.cell? ⟨w.heap.size, 2, none⟩ = some (.int .i64 s) ∧ w'.cell? ⟨w.heap.size, 3, none⟩ = some (.string b) ∧ Below (w.alloc (.cells #[.int .i64 k, .bool false, .int .i64 s, .string b] 24)).heap.size (w.alloc (.cells #[.int .i64 k, .bool false, .int .i64 s, .string b] 24)) w') → Below (w.alloc (.cells #[.int .i64 k, .bool false, .int .i64 s, .string b] 24)).heap.size (w.alloc (.cells #[.int .i64 k, .bool false, .int .i64 s, .string b] 24)) w' := fun w' h => h.2.2.2.2
  have hV0 : (w.alloc (.cells #[.int .i64 k, .bool false, .int .i64 s, .string b] 24)).cell? ⟨w.heap.size, 0, none⟩ = some (.int .i64 k) ∧ (w.alloc (.cells #[.int .i64 k, .bool false, .int .i64 s, .string b] 24)).cell? ⟨w.heap.size, 1, none⟩ = some (.bool false) ∧ (w.alloc (.cells #[.int .i64 k, .bool false, .int .i64 s, .string b] 24)).cell? ⟨w.heap.size, 2, none⟩ = some (.int .i64 s) ∧ (w.alloc (.cells #[.int .i64 k, .bool false, .int .i64 s, .string b] 24)).cell? ⟨w.heap.size, 3, none⟩ = some (.string b) ∧ Below (w.alloc (.cells #[.int .i64 k, .bool false, .int .i64 s, .string b] 24)).heap.size (w.alloc (.cells #[.int .i64 k, .bool false, .int .i64 s, .string b] 24)) (w.alloc (.cells #[.int .i64 k, .bool false, .int .i64 s, .string b] 24)) := ⟨by simp, by simp, by simp, by simp, Below.refl _ _⟩
  go_enter Tryd.func21, Tryd.ntmps21
  go_wp2
  go_region_held3 (fun w' => w'.cell? ⟨w.heap.size, 0, none⟩ = some (.int .i64 k) ∧ w'.cell? ⟨w.heap.size, 1, none⟩ = some (.bool false) ∧ w'.cell? ⟨w.heap.size, 2, none⟩ = some (.int .i64 s) ∧ w'.cell? ⟨w.heap.size, 3, none⟩ = some (.string b) ∧ Below (w.alloc (.cells #[.int .i64 k, .bool false, .int .i64 s, .string b] 24)).heap.size (w.alloc (.cells #[.int .i64 k, .bool false, .int .i64 s, .string b] 24)) w') (first | assumption | exact hkeepV _ _ ((Below.refl _ _).drew) hV0 | exact hkeepV _ _ hbN (by assumption)) ((first | (go_at_call 25; refine (l1Byte_any _ _ (by omega) (by omega)).mono ?_; rintro e wN ⟨rfl, hbN⟩)))
  have hV1 : wN.cell? ⟨w.heap.size, 0, none⟩ = some (.int .i64 k) ∧ wN.cell? ⟨w.heap.size, 1, none⟩ = some (.bool false) ∧ wN.cell? ⟨w.heap.size, 2, none⟩ = some (.int .i64 s) ∧ wN.cell? ⟨w.heap.size, 3, none⟩ = some (.string b) ∧ Below (w.alloc (.cells #[.int .i64 k, .bool false, .int .i64 s, .string b] 24)).heap.size (w.alloc (.cells #[.int .i64 k, .bool false, .int .i64 s, .string b] 24)) wN := by first | assumption | exact hkeepV _ _ hbN (by assumption)
  go_wp2
  go_ret
  exact ⟨rfl, btF hBw (hBelV _ hV1)⟩

theorem l12Write_ok (f : Fr) (w : World) (h : frOk f = true) :
    Calls Tryd.prog 21 #[f.val] w fun e w' => e = .returned (.string (frB f)) ∧ Below w.heap.size w w' := by
  have hb := frOk_bd h
  obtain ⟨k, l, s, b⟩ := f
  cases l
  · exact l12Write_false k s b w hb.1 (by have := hb.2.1; dsimp only at this; omega) hb.2.2.1 (by have := hb.2.2.2.1; dsimp only at this; omega) (by have := hb.2.2.2.2; dsimp only at this; omega)
  · exact l12Write_true k s b w hb.1 (by have := hb.2.1; dsimp only at this; omega) hb.2.2.1 (by have := hb.2.2.2.1; dsimp only at this; omega) (by have := hb.2.2.2.2; dsimp only at this; omega)

set_option maxRecDepth 100000 in
set_option maxHeartbeats 1000000 in
theorem specFrameWrite (f : Fr) (w : World) (hb : f.b.size ≤ maxLen) :
    Calls Tryd.prog 11 #[f.val] w fun e w' => e = .returned (.string (frWr f)) ∧ Below w.heap.size w w' := by
  have hok := fun w => specFrameOk f w hb
  have hB : Below w.heap.size w (w.alloc (.cells #[.int .i64 f.k, .bool f.l, .int .i64 f.s, .string f.b] 24)) := (Below.refl _ _).alloc (Nat.le_refl _) _
  cases h : frOk f with
  | false =>
    rw [h] at hok
    rw [frWr_bad h]
    clear h hb
    unfold Fr.val at hok ⊢
    go_enter Tryd.func11, Tryd.ntmps11
    go_wp2_with (go_at_call 20; refine (hok _).mono ?_; clear hok; rintro e w1 ⟨rfl, hb1⟩)
    go_ret
    exact ⟨rfl, btF hB hb1⟩
  | true =>
    rw [h] at hok
    rw [frWr_ok h]
    have hwr := fun w => l12Write_ok f w h
    clear h hb
    unfold Fr.val at hok hwr ⊢
    have c0 : ∀ w1, Below (w.alloc (.cells #[.int .i64 f.k, .bool f.l, .int .i64 f.s, .string f.b] 24)).heap.size (w.alloc (.cells #[.int .i64 f.k, .bool f.l, .int .i64 f.s, .string f.b] 24)) w1 → w1.cell? ⟨w.heap.size, 0, none⟩ = some (.int .i64 f.k) ∧ w1.cell? ⟨w.heap.size, 1, none⟩ = some (.bool f.l) ∧ w1.cell? ⟨w.heap.size, 2, none⟩ = some (.int .i64 f.s) ∧ w1.cell? ⟨w.heap.size, 3, none⟩ = some (.string f.b) := fun w1 h => ⟨keepF h (by simp), keepF h (by simp), keepF h (by simp), keepF h (by simp)⟩
    have HC : Hid _ := c0
    clear c0
    go_enter Tryd.func11, Tryd.ntmps11
    go_wp2_with (first | (go_at_call 20; refine (hok _).mono ?_; clear hok; rintro e w1 ⟨rfl, hb1⟩; obtain ⟨c0, c1, c2, c3⟩ := HC.out _ hb1) | (go_at_call 21; refine (hwr _).mono ?_; clear hwr; rintro e w2 ⟨rfl, hb2⟩))
    go_ret
    exact ⟨rfl, btF (btF hB hb1) hb2⟩
end Go.Proofs.YtmegdgkpdonikaaDoor
