import Derived.Test.YtadidkkpokpocawWUnp
import Derived.Test.YtadidkkpokpocawSW
import Derived.Test.YtadidkkpokpocawSpR7
namespace Go.Proofs.Ytadidkkpokpocaw
open Go.RowKit
set_option linter.unusedVariables false

/-- Texts of numbers. -/
theorem wOk_signs {l : List Int} (h : wOk l = true) : (∀ c ∈ l, 0 ≤ sgn c) ∧ l.length ≤ 16 := by
  unfold wOk at h
  rw [Bool.and_eq_true, List.all_eq_true] at h
  exact ⟨fun c hc => by simpa using h.1 c hc, by simpa using h.2⟩
/-- What WordPack answers. -/
def packV (s : ByteArray) : ByteArray := if wOk (bytesL s) then strOfNums (packL (bytesL s)) else ⟨#[]⟩
/-- What WordUnpack answers. -/
def unpV (s : ByteArray) : ByteArray × Bool := match unpL (bytesL s) with
  | some o => (strOfNums o, true)
  | none => (⟨#[]⟩, false)
theorem packL_length (l : List Int) (h : l.length ≤ 16) : (packL l).length ≤ 14 := by
  unfold packL
  rw [chunkN_length]
  have h1 := (padB_length (packB l)).2.2
  have h2 := packB_length l
  omega
theorem packL_bd (l : List Int) : ∀ x ∈ packL l, 0 ≤ x ∧ x ≤ 255 := chunkN_bd _ (padB_bit _ (packB_bit l)) _

set_option maxRecDepth 100000 in
set_option maxHeartbeats 400000 in
theorem specPack (s : ByteArray) (w : World) (hm : s.size ≤ maxLen) :
    Calls Try.prog 18 #[.string s] w fun e w' => e = .returned (.string (packV s)) ∧ Below w.heap.size w w' := by
  have HM : Hid (s.size ≤ maxLen) := hm
  clear hm
  by_cases h : wOk (bytesL s) = true
  · have HS : Hid (packV s = strOfNums (packL (bytesL s))) := by show packV s = _; unfold packV; rw [if_pos h]
    have HW := wOk_signs h
    have HH : Hid ((∀ c ∈ bytesL s, 0 ≤ sgn c) ∧ s.size ≤ 16) := by rw [bytesL_length] at HW; exact HW
    clear HW
    go_enter Try.func18, Try.ntmps18
    go_wp2_with fail
    refine (specWordOk _ _ HM.out).mono ?_
    rw [h]
    rintro e wa ⟨rfl, rfl⟩
    go_wp2_with fail
    refine (l2Pack_any _ _ HH.out.2 HH.out.1).mono ?_
    rintro e wb ⟨rfl, hb⟩
    go_wp2
    go_ret
    exact ⟨ret_str (by rw [HS.out]), hb⟩
  · have h' : wOk (bytesL s) = false := by simpa using h
    have HS : Hid (packV s = ⟨#[]⟩) := by show packV s = _; unfold packV; rw [if_neg h]
    clear h
    go_enter Try.func18, Try.ntmps18
    go_wp2_with fail
    refine (specWordOk _ _ HM.out).mono ?_
    rw [h']
    rintro e wa ⟨rfl, rfl⟩
    go_wp2
    go_ret
    exact ⟨ret_str (by rw [HS.out]), Below.refl _ _⟩

theorem size_zero {s : ByteArray} (h : s.size = 0) : s = ⟨#[]⟩ := by
  apply ByteArray.ext
  apply Array.eq_empty_of_size_eq_zero
  exact h

theorem l2Unpack_any (s : ByteArray) (w : World) (hz : s.size ≤ 16) :
    Calls Try.prog 39 #[.string s] w fun e w' => e = .returned (.tuple #[.string (strOfNums (unp (bytesB (bytesL s))).1), .bool (unpOk (unp (bytesB (bytesL s))))]) ∧ Below w.heap.size w w' := by
  by_cases h : s.size = 0
  · obtain rfl := size_zero h
    exact l2Unpack_none w
  · exact l2Unpack_some s w (by omega) hz

set_option maxRecDepth 100000 in
set_option maxHeartbeats 400000 in
theorem specUnpack (s : ByteArray) (w : World) (hm : s.size ≤ maxLen) :
    Calls Try.prog 20 #[.string s] w fun e w' => e = .returned (.tuple #[.string (unpV s).1, .bool (unpV s).2]) ∧ Below w.heap.size w w' := by
  unfold maxLen at hm
  by_cases h16 : (16 : Int) < s.size
  · have HV : Hid (unpV s = (⟨#[]⟩, false)) := by show unpV s = _; unfold unpV unpL; rw [if_pos (by rw [bytesL_length]; omega)]
    go_enter Try.func20, Try.ntmps20
    go_wp2
    go_ret2
    exact ⟨ret_sb (by rw [HV.out]) (by rw [HV.out]), Below.refl _ _⟩
  · have hU : unpL (bytesL s) = if unpOk (unp (bytesB (bytesL s))) then some (unp (bytesB (bytesL s))).1 else none := by unfold unpL; rw [if_neg (by rw [bytesL_length]; omega)]
    have HU : Hid (unpL (bytesL s) = if unpOk (unp (bytesB (bytesL s))) then some (unp (bytesB (bytesL s))).1 else none) := hU
    clear hU
    go_enter Try.func20, Try.ntmps20
    go_wp2_with fail
    refine (l2Unpack_any _ _ (by omega)).mono ?_
    obtain ⟨ok, hok⟩ : ∃ ok, unpOk (unp (bytesB (bytesL s))) = ok := ⟨_, rfl⟩
    rw [hok]
    have HK : Hid (unpOk (unp (bytesB (bytesL s))) = ok) := hok
    clear hok
    rintro e wb ⟨rfl, hb⟩
    cases ok with
    | false =>
      have HV : Hid (unpV s = (⟨#[]⟩, false)) := by show unpV s = _; unfold unpV; rw [HU.out, HK.out]; rfl
      go_wp2
      go_ret2
      exact ⟨ret_sb (by rw [HV.out]) (by rw [HV.out]), hb⟩
    | true =>
      have HV : Hid (unpV s = (strOfNums (unp (bytesB (bytesL s))).1, true)) := by show unpV s = _; unfold unpV; rw [HU.out, HK.out]; rfl
      go_wp2
      go_ret2
      exact ⟨ret_sb (by rw [HV.out]) (by rw [HV.out]), hb⟩

/-- A word in bytes, with how long it is. -/
def wrL (l : List Int) : List Int := if (packL l).length < l.length then (128 + (packL l).length : Int) :: packL l else (l.length : Int) :: l
/-- What WordWrite answers. -/
def wrV (s : ByteArray) : ByteArray := if wOk (bytesL s) then strOfNums (wrL (bytesL s)) else ⟨#[]⟩
theorem numS7 (n head : Int) (h0 : n < 127) : numS n 7 head = strOfNums [head * 128 + n] := by
  unfold numS
  unfold numL
  rw [if_pos (by rw [pw7]; omega), pw7]

theorem packV_size (s : ByteArray) : (packV s).size ≤ 14 := by
  unfold packV
  by_cases h : wOk (bytesL s) = true
  · rw [if_pos h, strOfNums_size]
    exact packL_length _ (wOk_signs h).2
  · rw [if_neg h]; decide

theorem wrV_size (s : ByteArray) : (wrV s).size ≤ 17 := by
  unfold wrV
  by_cases h : wOk (bytesL s) = true
  · rw [if_pos h, strOfNums_size]
    have h2 := (wOk_signs h).2
    have h1 := packL_length _ h2
    unfold wrL
    split
    · simp; omega
    · simp; omega
  · rw [if_neg h]; decide

end Go.Proofs.Ytadidkkpokpocaw
