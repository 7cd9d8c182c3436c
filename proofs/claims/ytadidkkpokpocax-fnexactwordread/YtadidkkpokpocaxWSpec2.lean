import Derived.Test.YtadidkkpokpocaxWSpec
namespace Go.Proofs.Ytadidkkpokpocax
open Go.RowKit
set_option linter.unusedVariables false

/-- The word at the beginning of bytes, and how many bytes it has. -/
def rdWL : List Int → Option (List Int × Int)
  | [] => none
  | a :: t => if 16 < a % 128 then none else if (t.length : Int) < a % 128 then none
    else if 128 ≤ a then (unpL (t.take (a % 128).toNat)).map (fun o => (o, 1 + a % 128))
    else if wOk (t.take (a % 128).toNat) then some (t.take (a % 128).toNat, 1 + a % 128) else none
theorem rdWL_cons (a : Int) (t : List Int) : rdWL (a :: t) = if 16 < a % 128 then none else if (t.length : Int) < a % 128 then none
    else if 128 ≤ a then (unpL (t.take (a % 128).toNat)).map (fun o => (o, 1 + a % 128))
    else if wOk (t.take (a % 128).toNat) then some (t.take (a % 128).toNat, 1 + a % 128) else none := rfl
/-- What WordRead answers. -/
def rdWV (s : ByteArray) : ByteArray × Int × Bool := match rdWL (bytesL s) with
  | some (o, u) => (strOfNums o, u, true)
  | none => (⟨#[]⟩, 0, false)
theorem rd_big (a : Int) (t : List Int) (ht : ∀ x ∈ t, 0 ≤ x ∧ x ≤ 255) (h : ¬ a % 128 < 127) : (rd 128 (a :: t)).2.2 = false ∨ 16 < (rd 128 (a :: t)).1 := by
  match t, ht with
  | [], _ => rw [rd1, if_neg (by omega)]; exact .inl rfl
  | [b], ht =>
    have hb := ht b (by simp)
    rw [rd2, if_neg (by omega)]
    by_cases h1 : b < 128
    · rw [if_pos h1]; exact .inr (by show (16 : Int) < 128 - 1 + b; omega)
    · rw [if_neg h1]; exact .inl rfl
  | b :: c :: u, ht =>
    have hb := ht b (by simp)
    have hc := ht c (by simp)
    rw [rd3, if_neg (by omega)]
    by_cases h1 : b < 128
    · rw [if_pos h1]; exact .inr (by show (16 : Int) < 128 - 1 + b; omega)
    · rw [if_neg h1]
      by_cases h2 : 128 ≤ c ∨ c = 0 ∨ 9999 < 128 - 1 + (b - 128) + 128 * c
      · rw [if_pos h2]; exact .inl rfl
      · rw [if_neg h2]; exact .inr (by show (16 : Int) < 128 - 1 + (b - 128) + 128 * c; omega)
theorem ret_sib {a b : ByteArray} {m n : Int} {c d : Bool} (h : a = b) (h1 : m = n) (h' : c = d) : Ending.returned (.tuple #[.string a, .int .i64 m, .bool c]) = .returned (.tuple #[.string b, .int .i64 n, .bool d]) := by rw [h, h1, h']

set_option maxHeartbeats 400000 in
theorem l2Read_no (s : ByteArray) (n u : Int) (ok : Bool) (w : World) (hm : s.size ≤ maxLen) (hrd : rd 128 (bytesL s) = (n, u, ok)) (h : ok = false ∨ 16 < n) (n1 : n ≤ 10000) :
    Calls Try.prog 14 #[.string s] w fun e w' => e = .returned (.tuple #[.string ⟨#[]⟩, .int .i64 0, .bool false]) ∧ Below w.heap.size w w' := by
  have HM : Hid (s.size ≤ maxLen) := hm
  have HRD : Hid (rd 128 (bytesL s) = (n, u, ok)) := hrd
  unfold maxLen at hm
  clear hrd
  cases ok with
  | false =>
    clear h
    go_enter Try.func14, Try.ntmps14
    go_wp2_with fail
    refine (sr7 _ _ HM.out).mono ?_
    rw [HRD.out]
    unfold tupV
    rintro e wa ⟨rfl, rfl⟩
    go_wp2
    go_ret3
    exact ⟨rfl, Below.refl _ _⟩
  | true =>
    have h16 : 16 < n := by simpa using h
    clear h
    go_enter Try.func14, Try.ntmps14
    go_wp2_with fail
    refine (sr7 _ _ HM.out).mono ?_
    rw [HRD.out]
    unfold tupV
    rintro e wa ⟨rfl, rfl⟩
    go_wp2
    go_ret3
    exact ⟨rfl, Below.refl _ _⟩

set_option maxHeartbeats 1000000 in
theorem l2Read_yes (s : ByteArray) (a : Int) (t : List Int) (w : World) (hm : s.size ≤ maxLen) (hl : bytesL s = a :: t) (h16 : ¬ 16 < a % 128) :
    Calls Try.prog 14 #[.string s] w fun e w' => e = .returned (.tuple #[.string (rdWV s).1, .int .i64 (rdWV s).2.1, .bool (rdWV s).2.2]) ∧ Below w.heap.size w w' := by
  have HM : Hid (s.size ≤ maxLen) := hm
  unfold maxLen at hm
  obtain ⟨hk, q0, x0, x1⟩ := of_cons (k := 0) (x := a) hl rfl
  have hrd : rd 128 (bytesL s) = (a % 128, 1, true) := by
    rw [hl]
    match t with
    | [] => rw [rd1, if_pos (by omega)]
    | [b] => rw [rd2, if_pos (by omega)]
    | b :: c :: u => rw [rd3, if_pos (by omega)]
  have HRD : Hid (rd 128 (bytesL s) = (a % 128, 1, true)) := hrd
  have hlen : s.size = t.length + 1 := by rw [← bytesL_length, hl]; rfl
  obtain ⟨n, hn⟩ : ∃ n : Nat, a % 128 = (n : Int) := ⟨(a % 128).toNat, by omega⟩
  have hn16 : (n : Int) ≤ 16 := by omega
  have HW : Hid (rdWL (bytesL s) = if (t.length : Int) < a % 128 then none else if 128 ≤ a then (unpL (t.take (a % 128).toNat)).map (fun o => (o, 1 + a % 128)) else if wOk (t.take (a % 128).toNat) then some (t.take (a % 128).toNat, 1 + a % 128) else none) := by
    show rdWL (bytesL s) = _
    rw [hl, rdWL_cons, if_neg h16]
  have HN : Hid (a % 128 = (n : Int)) := hn
  have HT : Hid (s.size = t.length + 1) := hlen
  clear hrd hn hlen h16
  by_cases hfit : (s.size : Int) < 1 + n
  · have HV : Hid (rdWV s = (⟨#[]⟩, 0, false)) := by
      show rdWV s = _
      unfold rdWV
      rw [HW.out, if_pos (by have := HT.out; have := HN.out; omega)]
    go_enter Try.func14, Try.ntmps14
    go_wp2_with fail
    refine (sr7 _ _ HM.out).mono ?_
    rw [HRD.out, HN.out]
    unfold tupV
    rintro e wa ⟨rfl, rfl⟩
    go_wp2
    go_ret3
    exact ⟨ret_sib (by rw [HV.out]) (by rw [HV.out]) (by rw [HV.out]), Below.refl _ _⟩
  · have hfit' : 1 + (n : Int) ≤ s.size := by omega
    have hx : bytesL (s.extract 1 (1 + n)) = t.take n := by
      rw [bytesL_extract, hl, Nat.add_comm 1 n, List.take_succ_cons]; rfl
    have HX : Hid (bytesL (s.extract 1 (1 + n)) = t.take n) := hx
    have HXM : Hid ((s.extract 1 (1 + n)).size ≤ maxLen) := by
      show (s.extract 1 (1 + n)).size ≤ maxLen
      rw [ByteArray.size_extract]; unfold maxLen; omega
    have HW2 : Hid (rdWL (bytesL s) = if 128 ≤ a then (unpL (t.take n)).map (fun o => (o, 1 + (n : Int))) else if wOk (t.take n) then some (t.take n, 1 + (n : Int)) else none) := by
      show rdWL (bytesL s) = _
      have hnn : (a % 128).toNat = n := by rw [HN.out]; simp
      rw [HW.out, if_neg (by have := HT.out; have := HN.out; omega), hnn, HN.out]
    clear HW hx hl
    have hsl : ∀ W : World, (Instr.slice 9 (.string s) (some (.int .i64 1)) (some (.int .i64 (1 + (n : Int)))) none).run Try.prog W = .ok (.string (s.extract 1 (1 + n))) W := fun W => by
      have h := run_slice_string (P := Try.prog) W 9 s .i64 .i64 1 (1 + (n : Int)) Try.underlying9 (by decide) (by omega) (by omega)
      rw [show (1 + (n : Int)).toNat = 1 + n by omega] at h
      exact h
    by_cases h128 : 128 ≤ a
    · go_enter Try.func14, Try.ntmps14
      go_wp2_with fail
      refine (sr7 _ _ HM.out).mono ?_
      rw [HRD.out, HN.out]
      unfold tupV
      rintro e wa ⟨rfl, rfl⟩
      go_wp2_with fail
      refine (specUnpack _ _ HXM.out).mono ?_
      obtain ⟨⟨o, ok⟩, hu⟩ : ∃ r, unpV (s.extract 1 (1 + n)) = r := ⟨_, rfl⟩
      have HU : Hid (unpV (s.extract 1 (1 + n)) = (o, ok)) := hu
      rw [hu]
      clear hu
      rintro e wb ⟨rfl, hb⟩
      cases ok with
      | false =>
        have HV : Hid (rdWV s = (⟨#[]⟩, 0, false)) := by
          show rdWV s = _
          have h1 := HU.out
          unfold unpV at h1
          rw [HX.out] at h1
          unfold rdWV
          rw [HW2.out, if_pos h128]
          match hq : unpL (t.take n) with
          | none => rfl
          | some z => rw [hq] at h1; simp at h1
        go_wp2
        go_ret3
        exact ⟨ret_sib (by rw [HV.out]) (by rw [HV.out]) (by rw [HV.out]), hb⟩
      | true =>
        have HV : Hid (rdWV s = (o, 1 + (n : Int), true)) := by
          show rdWV s = _
          have h1 := HU.out
          unfold unpV at h1
          rw [HX.out] at h1
          unfold rdWV
          rw [HW2.out, if_pos h128]
          match hq : unpL (t.take n) with
          | none => rw [hq] at h1; simp at h1
          | some z => rw [hq] at h1; simp at h1; rw [← h1]; rfl
        go_wp2
        go_ret3
        exact ⟨ret_sib (by rw [HV.out]) (by rw [HV.out]) (by rw [HV.out]), hb⟩
    · have h128' : a < 128 := by omega
      go_enter Try.func14, Try.ntmps14
      go_wp2_with fail
      refine (sr7 _ _ HM.out).mono ?_
      rw [HRD.out, HN.out]
      unfold tupV
      rintro e wa ⟨rfl, rfl⟩
      go_wp2_with fail
      refine (specWordOk _ _ HXM.out).mono ?_
      rw [HX.out]
      obtain ⟨ok, hok⟩ : ∃ ok, wOk (t.take n) = ok := ⟨_, rfl⟩
      rw [hok]
      have HK : Hid (wOk (t.take n) = ok) := hok
      clear hok
      rintro e wb ⟨rfl, rfl⟩
      cases ok with
      | false =>
        have HV : Hid (rdWV s = (⟨#[]⟩, 0, false)) := by
          show rdWV s = _
          unfold rdWV
          rw [HW2.out, if_neg (by omega), HK.out]; rfl
        go_wp2
        go_ret3
        exact ⟨ret_sib (by rw [HV.out]) (by rw [HV.out]) (by rw [HV.out]), Below.refl _ _⟩
      | true =>
        have HV : Hid (rdWV s = (s.extract 1 (1 + n), 1 + (n : Int), true)) := by
          show rdWV s = _
          unfold rdWV
          rw [HW2.out, if_neg (by omega), HK.out]
          show (strOfNums (t.take n), 1 + (n : Int), true) = _
          rw [← HX.out, strOfNums_bytesL]
        go_wp2
        go_ret3
        exact ⟨ret_sib (by rw [HV.out]) (by rw [HV.out]) (by rw [HV.out]), Below.refl _ _⟩

theorem l2Read_any (s : ByteArray) (w : World) (hm : s.size ≤ maxLen) :
    Calls Try.prog 14 #[.string s] w fun e w' => e = .returned (.tuple #[.string (rdWV s).1, .int .i64 (rdWV s).2.1, .bool (rdWV s).2.2]) ∧ Below w.heap.size w w' := by
  match hl : bytesL s with
  | [] =>
    have HV : rdWV s = (⟨#[]⟩, 0, false) := by unfold rdWV; rw [hl]; rfl
    rw [HV]
    exact l2Read_no s 0 0 false w hm (by rw [hl]; rfl) (.inl rfl) (by omega)
  | a :: t =>
    have hbd := bytesL_bd s
    rw [hl] at hbd
    have ha := hbd a (by simp)
    by_cases h16 : 16 < a % 128
    · have HV : rdWV s = (⟨#[]⟩, 0, false) := by unfold rdWV; rw [hl, rdWL_cons, if_pos h16]
      rw [HV]
      obtain ⟨⟨n, u, ok⟩, hr⟩ : ∃ r, rd 128 (a :: t) = r := ⟨_, rfl⟩
      have hn : n ≤ 10000 := by
        match t, hbd, hr with
        | [], _, hr => rw [rd1] at hr; split at hr <;> (simp at hr; omega)
        | [b], hbd, hr =>
          have hb := hbd b (by simp)
          rw [rd2] at hr
          split at hr
          · simp at hr; omega
          · split at hr <;> (simp at hr; omega)
        | b :: c :: u, hbd, hr =>
          rw [rd3] at hr
          split at hr
          · simp at hr; omega
          · split at hr
            · simp at hr; omega
            · split at hr <;> (simp at hr; omega)
      refine l2Read_no s n u ok w hm (by rw [hl]; exact hr) ?_ hn
      by_cases h127 : a % 128 < 127
      · refine .inr ?_
        have : rd 128 (a :: t) = (a % 128, 1, true) := by
          match t with
          | [] => rw [rd1, if_pos (by omega)]
          | [b] => rw [rd2, if_pos (by omega)]
          | b :: c :: u => rw [rd3, if_pos (by omega)]
        rw [this] at hr
        simp at hr
        omega
      · have := rd_big a t (fun x hx => hbd x (by simp [hx])) h127
        rw [hr] at this
        exact this
    · exact l2Read_yes s a t w hm hl h16

set_option maxHeartbeats 400000 in
theorem specRead (s : ByteArray) (w : World) (hm : s.size ≤ maxLen) :
    Calls Try.prog 7 #[.string s] w fun e w' => e = .returned (.tuple #[.string (rdWV s).1, .int .i64 (rdWV s).2.1, .bool (rdWV s).2.2]) ∧ Below w.heap.size w w' := by
  have HM : Hid (s.size ≤ maxLen) := hm
  clear hm
  go_enter Try.func7, Try.ntmps7
  go_wp2_with fail
  refine (l2Read_any _ _ HM.out).mono ?_
  rintro e wa ⟨rfl, hb⟩
  go_wp2
  go_ret3
  exact ⟨rfl, hb⟩
end Go.Proofs.Ytadidkkpokpocax
