import Derived.Test.YtadidkkpokpocadWUnp
import Derived.Test.YtadidkkpokpocadSW
import Derived.Test.YtadidkkpokpocadSpR7
namespace Go.Proofs.Ytadidkkpokpocad
open Go.RowKit
set_option linter.unusedVariables false

/-- Texts of numbers. -/
theorem wOk_signs {l : List Int} (h : wOk l = true) : (∀ c ∈ l, 0 ≤ sgn c) ∧ l.length ≤ 16 := by
  unfold wOk at h
  rw [Bool.and_eq_true, List.all_eq_true] at h
  exact ⟨fun c hc => by simpa using h.1 c hc, by simpa using h.2⟩
/-- What WordPack answers. -/
def packV (s : ByteArray) : ByteArray := if wOk (bytesL s) then strOfNums (packL (bytesL s)) else ⟨#[]⟩
/-- What WordUnpack answers. -/
def unpV (s : ByteArray) : ByteArray × Bool := match unpL (bytesL s) with
  | some o => (strOfNums o, true)
  | none => (⟨#[]⟩, false)
theorem packL_length (l : List Int) (h : l.length ≤ 16) : (packL l).length ≤ 14 := by
  unfold packL
  rw [chunkN_length]
  have h1 := (padB_length (packB l)).2.2
  have h2 := packB_length l
  omega
theorem packL_bd (l : List Int) : ∀ x ∈ packL l, 0 ≤ x ∧ x ≤ 255 := chunkN_bd _ (padB_bit _ (packB_bit l)) _

theorem size_zero {s : ByteArray} (h : s.size = 0) : s = ⟨#[]⟩ := by
  apply ByteArray.ext
  apply Array.eq_empty_of_size_eq_zero
  exact h

/-- A word in bytes, with how long it is. -/
def wrL (l : List Int) : List Int := if (packL l).length < l.length then (128 + (packL l).length : Int) :: packL l else (l.length : Int) :: l
/-- What WordWrite answers. -/
def wrV (s : ByteArray) : ByteArray := if wOk (bytesL s) then strOfNums (wrL (bytesL s)) else ⟨#[]⟩
theorem numS7 (n head : Int) (h0 : n < 127) : numS n 7 head = strOfNums [head * 128 + n] := by
  unfold numS
  unfold numL
  rw [if_pos (by rw [pw7]; omega), pw7]

set_option maxHeartbeats 400000 in
theorem l2Write_any (s : ByteArray) (w : World) (hz : s.size ≤ 16) (hok : ∀ c ∈ bytesL s, 0 ≤ sgn c) :
    Calls Try.prog 16 #[.string s] w fun e w' => e = .returned (.string (strOfNums (wrL (bytesL s)))) ∧ Below w.heap.size w w' := by
  have HOK : Hid (∀ c ∈ bytesL s, 0 ≤ sgn c) := hok
  clear hok
  obtain ⟨p, hp⟩ : ∃ p, packL (bytesL s) = p := ⟨_, rfl⟩
  have hpl := packL_length (bytesL s) (by rw [bytesL_length]; exact hz)
  have HW : Hid (wrL (bytesL s) = if p.length < s.size then (128 + p.length : Int) :: p else (s.size : Int) :: bytesL s) := by
    show wrL (bytesL s) = _
    unfold wrL; rw [hp, bytesL_length]
  rw [hp] at hpl
  have HP : Hid (packL (bytesL s) = p) := hp
  clear hp
  have hps : (strOfNums p).size = p.length := strOfNums_size p
  have HPS : Hid ((strOfNums p).size = p.length) := hps
  have hps2 : (strOfNums p).size ≤ 14 := by omega
  clear hps
  go_enter Try.func16, Try.ntmps16
  go_wp2_with fail
  refine (l2Pack_any _ _ hz HOK.out).mono ?_
  rw [HP.out]
  rintro e wa ⟨rfl, hb⟩
  by_cases hlt : (strOfNums p).size < s.size
  · have hlt' : ((strOfNums p).size : Int) < s.size := by omega
    have HN : Hid (numS ((strOfNums p).size : Int) 7 1 = strOfNums [128 + (p.length : Int)]) := by
      show numS ((strOfNums p).size : Int) 7 1 = strOfNums [128 + (p.length : Int)]
      rw [numS7 _ _ (by omega), HPS.out, Int.one_mul]
    have hs1 : ∀ x, (strOfNums [x]).size = 1 := fun _ => rfl
    go_wp2_with fail
    refine (l1Write_ok _ _ _ _ ⟨by decide, by decide, by omega, by omega, by decide, by decide⟩).mono ?_
    rw [HN.out]
    rintro e wb ⟨rfl, hb2⟩
    go_wp2
    go_ret
    refine ⟨ret_str ?_, hb.trans (hb2.mono hb.size)⟩
    rw [strOfNums_append, HW.out, if_pos (by rw [← HPS.out]; exact hlt)]; rfl
  · have hlt' : (s.size : Int) ≤ (strOfNums p).size := by omega
    have HN : Hid (numS (s.size : Int) 7 0 = strOfNums [(s.size : Int)]) := by
      show numS (s.size : Int) 7 0 = strOfNums [(s.size : Int)]
      rw [numS7 _ _ (by omega), Int.zero_mul, Int.zero_add]
    have hs1 : ∀ x, (strOfNums [x]).size = 1 := fun _ => rfl
    go_wp2_with fail
    refine (l1Write_ok _ _ _ _ ⟨by decide, by decide, by omega, by omega, by decide, by decide⟩).mono ?_
    rw [HN.out]
    rintro e wb ⟨rfl, hb2⟩
    go_wp2
    go_ret
    refine ⟨ret_str ?_, hb.trans (hb2.mono hb.size)⟩
    rw [HW.out, if_neg (by rw [← HPS.out]; exact hlt)]
    have := strOfNums_append [(s.size : Int)] (bytesL s)
    rw [strOfNums_bytesL] at this
    rw [this]; rfl

set_option maxHeartbeats 400000 in
theorem specWrite (s : ByteArray) (w : World) (hm : s.size ≤ maxLen) :
    Calls Try.prog 8 #[.string s] w fun e w' => e = .returned (.string (wrV s)) ∧ Below w.heap.size w w' := by
  have HM : Hid (s.size ≤ maxLen) := hm
  clear hm
  by_cases h : wOk (bytesL s) = true
  · have HS : Hid (wrV s = strOfNums (wrL (bytesL s))) := by show wrV s = _; unfold wrV; rw [if_pos h]
    have HW := wOk_signs h
    have HH : Hid ((∀ c ∈ bytesL s, 0 ≤ sgn c) ∧ s.size ≤ 16) := by rw [bytesL_length] at HW; exact HW
    clear HW
    go_enter Try.func8, Try.ntmps8
    go_wp2_with fail
    refine (specWordOk _ _ HM.out).mono ?_
    rw [h]
    rintro e wa ⟨rfl, rfl⟩
    go_wp2_with fail
    refine (l2Write_any _ _ HH.out.2 HH.out.1).mono ?_
    rintro e wb ⟨rfl, hb⟩
    go_wp2
    go_ret
    exact ⟨ret_str (by rw [HS.out]), hb⟩
  · have h' : wOk (bytesL s) = false := by simpa using h
    have HS : Hid (wrV s = ⟨#[]⟩) := by show wrV s = _; unfold wrV; rw [if_neg h]
    clear h
    go_enter Try.func8, Try.ntmps8
    go_wp2_with fail
    refine (specWordOk _ _ HM.out).mono ?_
    rw [h']
    rintro e wa ⟨rfl, rfl⟩
    go_wp2
    go_ret
    exact ⟨ret_str (by rw [HS.out]), Below.refl _ _⟩
theorem packV_size (s : ByteArray) : (packV s).size ≤ 14 := by
  unfold packV
  by_cases h : wOk (bytesL s) = true
  · rw [if_pos h, strOfNums_size]
    exact packL_length _ (wOk_signs h).2
  · rw [if_neg h]; decide

theorem wrV_size (s : ByteArray) : (wrV s).size ≤ 17 := by
  unfold wrV
  by_cases h : wOk (bytesL s) = true
  · rw [if_pos h, strOfNums_size]
    have h2 := (wOk_signs h).2
    have h1 := packL_length _ h2
    unfold wrL
    split
    · simp; omega
    · simp; omega
  · rw [if_neg h]; decide

end Go.Proofs.Ytadidkkpokpocad
