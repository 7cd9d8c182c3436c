import Derived.Test.YtghgcobnmmommaaDoorCA
import Derived.Test.YtghgcobnmmommaaDoorBA
import Derived.Test.YtghgcobnmmommaaDoorBB
import Derived.Deep.RegionHeld3
import Derived.Deep.DeepCutAuto
import Derived.Deep.RegionWith
namespace Go.Proofs.YtghgcobnmmommaaDoor
open Go.RowKit
set_option linter.unusedVariables false

theorem decF_le : ∀ (k n : Nat), (decF k n).length ≤ k + 1
  | 0, _ => by show 1 ≤ 1; omega
  | k + 1, n => by
    unfold decF
    split
    · show 1 ≤ _; omega
    · rw [List.length_append]
      have := decF_le k (n / 10)
      show _ + 1 ≤ _
      omega
theorem decB_le (n : Nat) : (decB n).size ≤ n + 1 := by
  unfold decB
  rw [strOfNums_size]
  exact decF_le n n
theorem convert_cell {P : Program} {e src dst : TypeId}
    (hs : P.underlying src = some (.slice e)) (he : P.underlying e = some (.int .u8)) (hd : P.underlying dst = some .string) (n : Int) (g : Nat) (w : World) (h : w.cell? ⟨g, 0, none⟩ = some (.int .u8 n)) :
    (convert src dst (.slice (some ⟨g, 0, none⟩) 1 1)).run P w = .ok (.string (strOfNums [n])) w := by
  refine run_convert_bytes_arg _ src e hs he g 0 1 1 [n] rfl ?_ dst hd
  intro i hi
  have : i = 0 := by omega
  subst this
  simpa using h
theorem btD {w a b : World} (h1 : Below w.heap.size w a) (h2 : Below a.heap.size a b) : Below w.heap.size w b := h1.trans (h2.mono h1.size)
set_option maxRecDepth 100000 in
set_option maxHeartbeats 4000000 in
theorem l6Dec_any : ∀ (m n : Nat) (w : World), n ≤ m → n ≤ 9223372036854775807 →
    Calls Tryd.prog 13 #[.int .i64 (n : Int)] w fun e w' => e = .returned (.string (decB n)) ∧ Below w.heap.size w w' := by
  intro m
  induction m with
  | zero =>
    intro n w h hm
    have hn : n = 0 := by omega
    subst hn
    have hcv := fun n w => convert_one (P := Tryd.prog) Tryd.underlying22 Tryd.underlying5 Tryd.underlying9 n w
    rw [decB_one (by decide)]
    go_enter Tryd.func13, Tryd.ntmps13
    go_wp2
    go_ret
    exact ⟨rfl, by go_grown⟩
  | succ m ih =>
    intro n w h hm
    have hcv := fun n w => convert_one (P := Tryd.prog) Tryd.underlying22 Tryd.underlying5 Tryd.underlying9 n w
    by_cases h10 : n < 10
    · have h10' : (n : Int) < 10 := by omega
      have h0 : ¬ (n : Int) < 0 := by omega
      have h00 : ¬ (n : Int) < -9223372036854775807 := by omega
      have hw1 : IntKind.i64.wrap (48 + (n : Int)) = 48 + (n : Int) := by rw [IntKind.wrap_i64]; omega
      have hw2 : IntKind.u8.wrap (48 + (n : Int)) = 48 + (n : Int) := by rw [IntKind.wrap_u8]; omega
      rw [decB_one h10]
      clear ih h hm h10
      go_enter Tryd.func13, Tryd.ntmps13
      go_wp2
      go_ret
      exact ⟨rfl, by go_grown⟩
    · have h10' : ¬ (n : Int) < 10 := by omega
      have h0 : ¬ (n : Int) < 0 := by omega
      have h00 : ¬ (n : Int) < -9223372036854775807 := by omega
      have hrec := fun w => ih (n / 10) w (by omega) (by omega)
      have hd0 : (0 : Int) ≤ n := by omega
      have hd1 : (n : Int) ≤ 9223372036854775807 := by omega
      obtain ⟨q, hq⟩ : ∃ q : Int, (n : Int) / 10 = q := ⟨_, rfl⟩
      obtain ⟨d, hd⟩ : ∃ d : Int, (n : Int) % 10 = d := ⟨_, rfl⟩
      have hqn : ((n / 10 : Nat) : Int) = q := by omega
      have hdn : ((n % 10 : Nat) : Int) = d := by omega
      have hd2 : 0 ≤ d ∧ d < 10 := by omega
      have htm : (n : Int).tmod 10 = d := by rw [Int.tmod_eq_emod_of_nonneg hd0]; exact hd
      have htd : (n : Int).tdiv 10 = q := by rw [Int.tdiv_eq_ediv_of_nonneg hd0]; exact hq
      have hw3 : IntKind.i64.wrap q = q := by rw [IntKind.wrap_i64]; omega
      have hw4 : IntKind.i64.wrap d = d := by rw [IntKind.wrap_i64]; omega
      rw [decB_step h10, hdn]
      rw [hqn] at hrec
      have hw1 : IntKind.i64.wrap (48 + d) = 48 + d := by rw [IntKind.wrap_i64]; omega
      have hw2 : IntKind.u8.wrap (48 + d) = 48 + d := by rw [IntKind.wrap_u8]; omega
      have hbz := decB_le (n / 10)
      obtain ⟨bs, hbs⟩ : ∃ bs, decB (n / 10) = bs := ⟨_, rfl⟩
      rw [hbs] at hbz
      have hc4 : bs.size + (strOfNums [48 + d]).size ≤ 9223372036854775807 := by have : (strOfNums [48 + d]).size = 1 := rfl; omega
      have hc4' : ¬ 9223372036854775807 < bs.size + (strOfNums [48 + d]).size := by omega
      clear hbz
      rw [hbs] at hrec ⊢
      have hmx : Tryd.prog.follows .mixedOrders = true := by kernel_rfl
      clear ih h hm h10 hqn hdn hbs
      go_enter Tryd.func13, Tryd.ntmps13
      go_upto_region 7 with fail
      have hcd := fun n (w : World) => convert_cell (P := Tryd.prog) Tryd.underlying22 Tryd.underlying5 Tryd.underlying9 n w.heap.size (w.alloc (.cells #[.int .u8 n] 5)).drew (by simp)
      have hAc : (w.alloc (.cells #[.int .u8 (48 + d)] 5)).drew.cell? ⟨w.heap.size, 0, none⟩ = some (.int .u8 (48 + d)) := by simp
      have hAl : w.heap.size < (w.alloc (.cells #[.int .u8 (48 + d)] 5)).drew.heap.size := by simp
      go_region_with (go_at_call 13; refine (hrec _).mono ?_; rintro e w2 ⟨rfl, hb2⟩; (first | (have hc9 : w2.cell? ⟨w.heap.size, 0, none⟩ = some (.int .u8 (48 + d)) := (hb2.cell (p := ⟨w.heap.size, 0, none⟩) hAl).trans hAc; have hcv9 := convert_cell (P := Tryd.prog) Tryd.underlying22 Tryd.underlying5 Tryd.underlying9 (48 + d) w.heap.size w2 hc9) | skip))
      all_goals
        go_wp2
        go_ret
        first
          | exact ⟨rfl, btD (((Below.refl _ _).alloc (Nat.le_refl _) _).drew) hb2⟩
          | exact ⟨rfl, (btD ((Below.refl _ _).drew) hb2).alloc (btD ((Below.refl _ w).drew) hb2).size _⟩
end Go.Proofs.YtghgcobnmmommaaDoor
