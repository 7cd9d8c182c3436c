import Derived.Test.YtghgcobnmmommaaDoorBR
namespace Go.Proofs.YtghgcobnmmommaaDoor
open Go.RowKit
set_option linter.unusedVariables false

theorem cells7 (W : World) (t : TypeId) (l : List ByteArray) (B : Nat) (hB : ∀ s ∈ l, s.size ≤ B) : ∀ i, i < l.length → ∃ x : ByteArray, x.size ≤ B ∧ (W.alloc (.cells (l.map fun s => Value.string s).toArray t)).cell? ⟨W.heap.size, i, none⟩ = some (.string x) := by
  intro i hi
  refine ⟨l[i], hB _ (List.getElem_mem hi), ?_⟩
  simp [hi]
set_option maxRecDepth 100000 in
set_option maxHeartbeats 4000000 in
theorem l72Path_any (b N : Nat) (w0 w : World) (hst : St2 w0 w b N) (hN : N ≤ 900000) :
    Calls Tryd.prog 10 #[.pointer (some ⟨b, 0, none⟩)] w fun e w' => ∃ t : ByteArray, e = .returned (.string t) ∧ t.size ≤ 20 ∧ St2 w0 w' b (N + 1) := by
  have hc := cells7 w 9 [⟨#[47, 101, 99, 104, 111]⟩, ⟨#[47, 101, 99, 104, 111]⟩, ⟨#[47, 117, 112]⟩, ⟨#[47, 117, 112]⟩, ⟨#[47, 108, 101, 110]⟩, ⟨#[47, 110, 111, 110, 101]⟩, ⟨#[]⟩] 20 (by decide)
  have HC : Hid _ := hc
  have hs := hst.alloc (.cells (([⟨#[47, 101, 99, 104, 111]⟩, ⟨#[47, 101, 99, 104, 111]⟩, ⟨#[47, 117, 112]⟩, ⟨#[47, 117, 112]⟩, ⟨#[47, 108, 101, 110]⟩, ⟨#[47, 110, 111, 110, 101]⟩, ⟨#[]⟩] : List ByteArray).map fun s => Value.string s).toArray 9)
  have hlt := hst.lt
  clear hst hc
  go_enter Tryd.func10, Tryd.ntmps10
  go_wp2_with (go_at_call 17; refine (of_2 b N w.heap.size 7 7 20 w0 _ hs hN (by decide) (by decide) (by omega) HC.out).mono ?_; rintro e w1 ⟨t, rfl, ht, s1⟩)
  go_ret
  exact ⟨t, rfl, ht, s1⟩
set_option maxRecDepth 100000 in
set_option maxHeartbeats 4000000 in
theorem l72Text_any (b N : Nat) (w0 w : World) (hst : St2 w0 w b N) (hN : N ≤ 800000) :
    Calls Tryd.prog 11 #[.pointer (some ⟨b, 0, none⟩)] w fun e w' => ∃ t : ByteArray, e = .returned (.string t) ∧ t.size ≤ 20 ∧ St2 w0 w' b (N + 20) := by
  go_enter Tryd.func11, Tryd.ntmps11
  go_wp2_with fail
  refine (pick_st2 _ _ _ _ _ hst (by omega) (by decide)).mono ?_
  rintro e w1 ⟨v1, rfl, v10, v11, s1, _⟩
  clear hst
  go_wp2
  go_loopw [3, 4] (fun sv nv wr => ∃ (j m : Nat) (t : ByteArray), m + j ≤ 16 ∧ nv = .int .i64 m ∧ sv = .string t ∧ t.size ≤ j ∧ St2 w0 wr b (N + 1 + j)) (fun _ nv _ => (intOf nv).toNat)
  case atStart => exact ⟨0, v1.toNat, ⟨#[]⟩, by omega, by congr 1; omega, rfl, by decide, s1⟩
  case round =>
    clear s1
    obtain ⟨j, m, t, hmj, rfl, rfl, ht, hs⟩ := hrel
    by_cases hm : 0 < m
    · have hm' : (0 : Int) < m := by omega
      have hw1 : IntKind.i64.wrap ((m : Int) - 1) = (m : Int) - 1 := by rw [IntKind.wrap_i64]; omega
      have HC : Hid _ := cells7 wr 9 [⟨#[97]⟩, ⟨#[98]⟩, ⟨#[99]⟩, ⟨#[121]⟩, ⟨#[122]⟩, ⟨#[55]⟩] 1 (by decide)
      have hs2 := hs.alloc (.cells (([⟨#[97]⟩, ⟨#[98]⟩, ⟨#[99]⟩, ⟨#[121]⟩, ⟨#[122]⟩, ⟨#[55]⟩] : List ByteArray).map fun s => Value.string s).toArray 9)
      have hlt := hs.lt
      clear hs
      go_wp2_with (go_at_call 17; refine (of_2 b (N + 1 + j) wr.heap.size 6 6 1 w0 _ hs2 (by omega) (by decide) (by decide) (by omega) HC.out).mono ?_; rintro e w3 ⟨x, rfl, hx, s3⟩; have hc4 : t.size + x.size ≤ 9223372036854775807 := (by omega); have hc4' : ¬ 9223372036854775807 < t.size + x.size := (by omega))
      go_roundw
      case rel => exact ⟨j + 1, m - 1, t ++ x, by omega, by congr 1; omega, rfl, by rw [ByteArray.size_append]; omega, s3⟩
      case measure => simp [intOf]; omega
    · have hm' : ¬ (0 : Int) < m := by omega
      go_wp2
      go_ret
      exact ⟨t, rfl, by omega, hs.more2 (by omega)⟩
end Go.Proofs.YtghgcobnmmommaaDoor
