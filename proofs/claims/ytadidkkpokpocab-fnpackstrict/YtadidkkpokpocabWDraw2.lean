import Derived.Test.YtadidkkpokpocabWDraw
import Derived.Test.YtadidkkpokpocabWSpec
namespace Go.Proofs.Ytadidkkpokpocab
open Go.RowKit
set_option linter.unusedVariables false

set_option maxHeartbeats 400000 in
theorem of_any (b N g L cap B : Nat) (w0 w : World) (hst : St w0 w b N) (hN : N ≤ 900000) (hL : 1 ≤ L) (hL2 : L ≤ 100) (hg : g ≠ b) (hc : ∀ i, i < L → ∃ t : ByteArray, t.size ≤ B ∧ w.cell? ⟨g, i, none⟩ = some (.string t)) :
    Calls Try.prog 33 #[.pointer (some ⟨b, 0, none⟩), .slice (some ⟨g, 0, none⟩) L cap] w fun e w' => ∃ t : ByteArray, e = .returned (.string t) ∧ t.size ≤ B ∧ St w0 w' b (N + 1) := by
  have HC : Hid (∀ i, i < L → ∃ t : ByteArray, t.size ≤ B ∧ w.cell? ⟨g, i, none⟩ = some (.string t)) := hc
  clear hc
  go_enter Try.func33, Try.ntmps33
  go_wp2_with fail
  refine (pick_st _ _ _ _ _ hst (by omega) (by omega)).mono ?_
  rintro e w1 ⟨v, rfl, v0, v1, s1, o1⟩
  obtain ⟨kn, rfl⟩ : ∃ kn : Nat, v = (kn : Int) := ⟨v.toNat, by omega⟩
  obtain ⟨t, ht, hct⟩ := HC.out kn (by omega)
  have hcell : w1.cell? ⟨g, kn, none⟩ = some (.string t) := (o1.cell (p := ⟨g, kn, none⟩) hg).trans hct
  have hkl : (kn : Int) < L := by omega
  clear hct o1 hst
  go_wp2
  go_ret
  exact ⟨_, rfl, ht, s1⟩

theorem str_cells (w : World) (e : TypeId) (xs : List ByteArray) (B : Nat) (h : ∀ x ∈ xs, x.size ≤ B) : ∀ i, i < xs.length → ∃ t : ByteArray, t.size ≤ B ∧ (w.alloc (.cells (xs.map Value.string).toArray e)).cell? ⟨w.heap.size, i, none⟩ = some (.string t) := by
  intro i hi
  exact ⟨xs[i], h _ (List.getElem_mem hi), by simp [hi]⟩

set_option maxHeartbeats 400000 in
theorem drawWordOk (a : Option Addr) (len cap : Nat) (zs : List Int) (w : World) (hr : Row w a len cap zs) :
    Calls Try.prog 13 #[.slice a len cap] w fun e w' => ∃ t : ByteArray, e = .returned (.string t) ∧ t.size ≤ 30 ∧ Below w.heap.size w w' := by
  have HR : Hid (Row w a len cap zs) := hr
  clear hr
  go_enter Try.func13, Try.ntmps13
  go_wp2_with fail
  refine (open_st _ _ _ _ _ HR.out).mono ?_
  rintro e w1 ⟨rfl, s1⟩
  go_wp2_with fail
  refine (l71Word_any _ _ _ _ s1 (by decide)).mono ?_
  rintro e w2 ⟨t, rfl, ht, s2⟩
  clear s1
  go_wp2_with fail
  refine (pick_st _ _ _ _ _ s2 (by decide) (by decide)).mono ?_
  rintro e w3 ⟨k, rfl, k0, k1, s3, _⟩
  clear s2
  by_cases e0 : (k == 0) = true
  · have hlt := s3.lt
    go_wp2_with fail
    refine (of_any _ _ _ 3 3 1 _ _ (s3.alloc _) (by decide) (by decide) (by decide) (by omega) (str_cells w3 _ [⟨#[32]⟩, ⟨#[95]⟩, ⟨#[122]⟩] 1 (by decide))).mono ?_
    rintro e w4 ⟨u, rfl, hu, s4⟩
    go_wp2
    go_ret
    exact ⟨_, rfl, by rw [ByteArray.size_append]; omega, s4.bel⟩
  · have e0' : (k == 0) = false := by simpa using e0
    clear e0
    go_wp2
    go_ret
    exact ⟨_, rfl, by omega, s3.bel⟩

set_option maxHeartbeats 400000 in
theorem drawWordUnpack (a : Option Addr) (len cap : Nat) (zs : List Int) (w : World) (hr : Row w a len cap zs) :
    Calls Try.prog 20 #[.slice a len cap] w fun e w' => ∃ t : ByteArray, e = .returned (.string t) ∧ t.size ≤ 30 ∧ Below w.heap.size w w' := by
  have HR : Hid (Row w a len cap zs) := hr
  clear hr
  go_enter Try.func20, Try.ntmps20
  go_wp2_with fail
  refine (open_st _ _ _ _ _ HR.out).mono ?_
  rintro e w1 ⟨rfl, s1⟩
  go_wp2_with fail
  refine (l71Word_any _ _ _ _ s1 (by decide)).mono ?_
  rintro e w2 ⟨t, rfl, ht, s2⟩
  clear s1
  go_wp2_with fail
  refine (specPack _ _ (by unfold maxLen; omega)).mono ?_
  obtain ⟨p, hp⟩ : ∃ p, packV t = p := ⟨_, rfl⟩
  have hps := packV_size t
  rw [hp] at hps ⊢
  clear hp
  rintro e w3 ⟨rfl, hb3⟩
  have s3 := s2.grow hb3
  clear s2 hb3
  go_wp2_with fail
  refine (pick_st _ _ _ _ _ s3 (by decide) (by decide)).mono ?_
  rintro e w4 ⟨k, rfl, k0, k1, s4, _⟩
  clear s3
  have hs1 : ∀ x, (strOfNums [x]).size = 1 := fun _ => rfl
  by_cases e0 : (k == 0) = true
  · go_wp2_with fail
    refine (l1Byte_any _ _ (by decide) (by decide)).mono ?_
    rintro e w5 ⟨rfl, hb5⟩
    go_wp2
    go_ret
    exact ⟨_, rfl, by rw [ByteArray.size_append, hs1]; omega, (s4.grow hb5).bel⟩
  · have e0' : (k == 0) = false := by simpa using e0
    clear e0
    by_cases e1 : (k == 1) = true
    · go_wp2_with fail
      refine (pick_st _ _ _ _ _ s4 (by decide) (by omega)).mono ?_
      rintro e w5 ⟨v, rfl, v0, v1, s5, _⟩
      have v2 : v ≤ (p.size : Int) := by omega
      go_wp2
      go_ret
      exact ⟨_, rfl, by rw [ByteArray.size_extract]; omega, s5.bel⟩
    · have e1' : (k == 1) = false := by simpa using e1
      clear e1
      by_cases e2 : (k == 2) = true
      · go_wp2_with fail
        refine (pick_st _ _ _ _ _ s4 (by decide) (by decide)).mono ?_
        rintro e w5 ⟨v, rfl, v0, v1, s5, _⟩
        go_wp2_with fail
        refine (l1Byte_any _ _ (by omega) (by omega)).mono ?_
        rintro e w6 ⟨rfl, hb6⟩
        go_wp2
        go_ret
        exact ⟨_, rfl, by rw [ByteArray.size_append, hs1]; omega, (s5.grow hb6).bel⟩
      · have e2' : (k == 2) = false := by simpa using e2
        clear e2
        go_wp2
        go_ret
        exact ⟨_, rfl, by omega, s4.bel⟩

end Go.Proofs.Ytadidkkpokpocab
