import Derived.Test.YtadidkkpokpocadImpX
import Derived.Test.YtadidkkpokpocadImpV
import Derived.Test.YtadidkkpokpocadNumR7
import Derived.Test.YtadidkkpokpocadWSpec2
namespace Go.Proofs.Ytadidkkpokpocad
open Go.RowKit
set_option linter.unusedVariables false

theorem ir7_is (s : ByteArray) (n u : Int) (ok : Bool) (w : World) (hm : s.size ≤ maxLen) (hrd : rd 128 (bytesL s) = (n, u, ok)) :
    Calls Try.prog 17 #[.string s, .int .i64 7] w fun e w' => e = .returned (.tuple #[.int .i64 n, .int .i64 u, .bool ok]) ∧ Below w.heap.size w w' := by
  have := ir7 s w hm
  rw [hrd] at this
  exact this
set_option maxHeartbeats 400000 in
theorem implRead_no (s : ByteArray) (n u : Int) (ok : Bool) (w : World) (hm : s.size ≤ maxLen) (hrd : rd 128 (bytesL s) = (n, u, ok)) (h : ok = false ∨ 16 < n) (n1 : n ≤ 10000) :
    Calls Try.prog 9 #[.string s] w fun e w' => e = .returned (.tuple #[.string ⟨#[]⟩, .int .i64 0, .bool false]) ∧ Below w.heap.size w w' := by
  have hir := ir7_is s n u ok w hm hrd
  unfold maxLen at hm
  clear hrd
  cases ok with
  | false =>
    clear h
    go_enter Try.func9, Try.ntmps9
    go_wp2_with (go_at_call 17; refine hir.mono ?_; rintro e w1 ⟨rfl, hb1⟩)
    go_ret3
    exact ⟨rfl, hb1⟩
  | true =>
    have h16 : 16 < n := by simpa using h
    clear h
    go_enter Try.func9, Try.ntmps9
    go_wp2_with (go_at_call 17; refine hir.mono ?_; rintro e w1 ⟨rfl, hb1⟩)
    go_ret3
    exact ⟨rfl, hb1⟩

set_option maxHeartbeats 1000000 in
theorem implRead_yes (s : ByteArray) (a : Int) (t : List Int) (w : World) (hm : s.size ≤ maxLen) (hl : bytesL s = a :: t) (h16 : ¬ 16 < a % 128) :
    Calls Try.prog 9 #[.string s] w fun e w' => e = .returned (.tuple #[.string (rdWV s).1, .int .i64 (rdWV s).2.1, .bool (rdWV s).2.2]) ∧ Below w.heap.size w w' := by
  have HM : Hid (s.size ≤ maxLen) := hm
  unfold maxLen at hm
  obtain ⟨hk, q0, x0, x1⟩ := of_cons (k := 0) (x := a) hl rfl
  have hrd : rd 128 (bytesL s) = (a % 128, 1, true) := by
    rw [hl]
    match t with
    | [] => rw [rd1, if_pos (by omega)]
    | [b] => rw [rd2, if_pos (by omega)]
    | b :: c :: u => rw [rd3, if_pos (by omega)]
  have hlen : s.size = t.length + 1 := by rw [← bytesL_length, hl]; rfl
  obtain ⟨n, hn⟩ : ∃ n : Nat, a % 128 = (n : Int) := ⟨(a % 128).toNat, by omega⟩
  rw [hn] at hrd
  have hir := ir7_is s n 1 true w HM.out hrd
  have hn16 : (n : Int) ≤ 16 := by omega
  have HW : Hid (rdWL (bytesL s) = if (t.length : Int) < a % 128 then none else if 128 ≤ a then (unpL (t.take (a % 128).toNat)).map (fun o => (o, 1 + a % 128)) else if wOk (t.take (a % 128).toNat) then some (t.take (a % 128).toNat, 1 + a % 128) else none) := by
    show rdWL (bytesL s) = _
    rw [hl, rdWL_cons, if_neg h16]
  have HN : Hid (a % 128 = (n : Int)) := hn
  have HT : Hid (s.size = t.length + 1) := hlen
  clear hrd hn hlen h16
  by_cases hfit : (s.size : Int) < 1 + n
  · have HV : Hid (rdWV s = (⟨#[]⟩, 0, false)) := by
      show rdWV s = _
      unfold rdWV
      rw [HW.out, if_pos (by have := HT.out; have := HN.out; omega)]
    have hfit2 : (s.size : Int) - 1 < n := by omega
    clear hfit
    go_enter Try.func9, Try.ntmps9
    go_wp2_with (go_at_call 17; refine hir.mono ?_; rintro e w1 ⟨rfl, hb1⟩)
    go_ret3
    exact ⟨ret_sib (by rw [HV.out]) (by rw [HV.out]) (by rw [HV.out]), hb1⟩
  · have hfit2 : (n : Int) ≤ s.size - 1 := by omega
    have hx : bytesL (s.extract 1 (1 + n)) = t.take n := by
      rw [bytesL_extract, hl, Nat.add_comm 1 n, List.take_succ_cons]; rfl
    have HX : Hid (bytesL (s.extract 1 (1 + n)) = t.take n) := hx
    have hx16 : (s.extract 1 (1 + n)).size ≤ 16 := by
      rw [ByteArray.size_extract]; omega
    have HXM : Hid ((s.extract 1 (1 + n)).size ≤ maxLen) := by
      show (s.extract 1 (1 + n)).size ≤ maxLen
      unfold maxLen; omega
    have HW2 : Hid (rdWL (bytesL s) = if 128 ≤ a then (unpL (t.take n)).map (fun o => (o, 1 + (n : Int))) else if wOk (t.take n) then some (t.take n, 1 + (n : Int)) else none) := by
      show rdWL (bytesL s) = _
      have hnn : (a % 128).toNat = n := by rw [HN.out]; simp
      rw [HW.out, if_neg (by have := HT.out; have := HN.out; omega), hnn, HN.out]
    clear HW hx hl
    have hsl : ∀ W : World, (Instr.slice 9 (.string s) (some (.int .i64 1)) (some (.int .i64 (1 + (n : Int)))) none).run Try.prog W = .ok (.string (s.extract 1 (1 + n))) W := fun W => by
      have h := run_slice_string (P := Try.prog) W 9 s .i64 .i64 1 (1 + (n : Int)) Try.underlying9 (by decide) (by omega) (by omega)
      rw [show (1 + (n : Int)).toNat = 1 + n by omega] at h
      exact h
    clear hfit
    obtain ⟨x, hxe⟩ : ∃ x, s.extract 1 (1 + n) = x := ⟨_, rfl⟩
    rw [hxe] at HX hx16 HXM hsl
    by_cases h128 : 128 ≤ a
    · obtain ⟨⟨o, ok⟩, hu⟩ : ∃ r, unpV x = r := ⟨_, rfl⟩
      have HU : Hid (unpV x = (o, ok)) := hu
      have hup : ∀ w, Calls Try.prog 19 #[.string x] w fun e w' => e = .returned (.tuple #[.string o, .bool ok]) ∧ Below w.heap.size w w' := by
        intro w
        have := implUnpack x w HXM.out
        rw [hu] at this
        exact this
      clear hu hxe
      cases ok with
      | false =>
        have HV : Hid (rdWV s = (⟨#[]⟩, 0, false)) := by
          show rdWV s = _
          have h1 := HU.out
          unfold unpV at h1
          rw [HX.out] at h1
          unfold rdWV
          rw [HW2.out, if_pos h128]
          match hq : unpL (t.take n) with
          | none => rfl
          | some z => rw [hq] at h1; simp at h1
        go_enter Try.func9, Try.ntmps9
        go_wp2_with (first | (go_at_call 17; refine hir.mono ?_; rintro e w1 ⟨rfl, hb1⟩) | (go_at_call 18; refine (clone_any x _ hx16).mono ?_; rintro e w2 ⟨rfl, hb2⟩) | (go_at_call 19; refine (hup _).mono ?_; rintro e w3 ⟨rfl, hb3⟩))
        go_ret3
        exact ⟨ret_sib (by rw [HV.out]) (by rw [HV.out]) (by rw [HV.out]), (hb1.trans (hb2.mono hb1.size)).trans (hb3.mono (Nat.le_trans hb1.size hb2.size))⟩
      | true =>
        have HV : Hid (rdWV s = (o, 1 + (n : Int), true)) := by
          show rdWV s = _
          have h1 := HU.out
          unfold unpV at h1
          rw [HX.out] at h1
          unfold rdWV
          rw [HW2.out, if_pos h128]
          match hq : unpL (t.take n) with
          | none => rw [hq] at h1; simp at h1
          | some z => rw [hq] at h1; simp at h1; rw [← h1]; rfl
        go_enter Try.func9, Try.ntmps9
        go_wp2_with (first | (go_at_call 17; refine hir.mono ?_; rintro e w1 ⟨rfl, hb1⟩) | (go_at_call 18; refine (clone_any x _ hx16).mono ?_; rintro e w2 ⟨rfl, hb2⟩) | (go_at_call 19; refine (hup _).mono ?_; rintro e w3 ⟨rfl, hb3⟩))
        go_ret3
        exact ⟨ret_sib (by rw [HV.out]) (by rw [HV.out]) (by rw [HV.out]), (hb1.trans (hb2.mono hb1.size)).trans (hb3.mono (Nat.le_trans hb1.size hb2.size))⟩
    · have h128' : a < 128 := by omega
      obtain ⟨ok, hok⟩ : ∃ ok, wOk (t.take n) = ok := ⟨_, rfl⟩
      have HK : Hid (wOk (t.take n) = ok) := hok
      have hwo : ∀ w, Calls Try.prog 12 #[.string x] w fun e w' => e = .returned (.bool ok) ∧ Below w.heap.size w w' := by
        intro w
        have := implOk x w HXM.out
        rw [HX.out, hok] at this
        exact this
      have HXE : Hid (s.extract 1 (1 + n) = x) := hxe
      clear hok hxe
      cases ok with
      | false =>
        have HV : Hid (rdWV s = (⟨#[]⟩, 0, false)) := by
          show rdWV s = _
          unfold rdWV
          rw [HW2.out, if_neg (by omega), HK.out]; rfl
        go_enter Try.func9, Try.ntmps9
        go_wp2_with (first | (go_at_call 17; refine hir.mono ?_; rintro e w1 ⟨rfl, hb1⟩) | (go_at_call 18; refine (clone_any x _ hx16).mono ?_; rintro e w2 ⟨rfl, hb2⟩) | (go_at_call 12; refine (hwo _).mono ?_; rintro e w3 ⟨rfl, hb3⟩))
        go_ret3
        exact ⟨ret_sib (by rw [HV.out]) (by rw [HV.out]) (by rw [HV.out]), (hb1.trans (hb2.mono hb1.size)).trans (hb3.mono (Nat.le_trans hb1.size hb2.size))⟩
      | true =>
        have HV : Hid (rdWV s = (x, 1 + (n : Int), true)) := by
          show rdWV s = _
          unfold rdWV
          rw [HW2.out, if_neg (by omega), HK.out]
          show (strOfNums (t.take n), 1 + (n : Int), true) = _
          rw [← HX.out, strOfNums_bytesL]
        go_enter Try.func9, Try.ntmps9
        go_wp2_with (first | (go_at_call 17; refine hir.mono ?_; rintro e w1 ⟨rfl, hb1⟩) | (go_at_call 18; refine (clone_any x _ hx16).mono ?_; rintro e w2 ⟨rfl, hb2⟩) | (go_at_call 12; refine (hwo _).mono ?_; rintro e w3 ⟨rfl, hb3⟩))
        go_ret3
        exact ⟨ret_sib (by rw [HV.out]) (by rw [HV.out]) (by rw [HV.out]), (hb1.trans (hb2.mono hb1.size)).trans (hb3.mono (Nat.le_trans hb1.size hb2.size))⟩

theorem implRead (s : ByteArray) (w : World) (hm : s.size ≤ maxLen) :
    Calls Try.prog 9 #[.string s] w fun e w' => e = .returned (.tuple #[.string (rdWV s).1, .int .i64 (rdWV s).2.1, .bool (rdWV s).2.2]) ∧ Below w.heap.size w w' := by
  match hl : bytesL s with
  | [] =>
    have HV : rdWV s = (⟨#[]⟩, 0, false) := by unfold rdWV; rw [hl]; rfl
    rw [HV]
    exact implRead_no s 0 0 false w hm (by rw [hl]; rfl) (.inl rfl) (by omega)
  | a :: t =>
    have hbd := bytesL_bd s
    rw [hl] at hbd
    have ha := hbd a (by simp)
    by_cases h16 : 16 < a % 128
    · have HV : rdWV s = (⟨#[]⟩, 0, false) := by unfold rdWV; rw [hl, rdWL_cons, if_pos h16]
      rw [HV]
      obtain ⟨⟨n, u, ok⟩, hr⟩ : ∃ r, rd 128 (a :: t) = r := ⟨_, rfl⟩
      have hn : n ≤ 10000 := by
        match t, hbd, hr with
        | [], _, hr => rw [rd1] at hr; split at hr <;> (simp at hr; omega)
        | [b], hbd, hr =>
          have hb := hbd b (by simp)
          rw [rd2] at hr
          split at hr
          · simp at hr; omega
          · split at hr <;> (simp at hr; omega)
        | b :: c :: u, hbd, hr =>
          rw [rd3] at hr
          split at hr
          · simp at hr; omega
          · split at hr
            · simp at hr; omega
            · split at hr <;> (simp at hr; omega)
      refine implRead_no s n u ok w hm (by rw [hl]; exact hr) ?_ hn
      by_cases h127 : a % 128 < 127
      · refine .inr ?_
        have : rd 128 (a :: t) = (a % 128, 1, true) := by
          match t with
          | [] => rw [rd1, if_pos (by omega)]
          | [b] => rw [rd2, if_pos (by omega)]
          | b :: c :: u => rw [rd3, if_pos (by omega)]
        rw [this] at hr
        simp at hr
        omega
      · have := rd_big a t (fun x hx => hbd x (by simp [hx])) h127
        rw [hr] at this
        exact this
    · exact implRead_yes s a t w hm hl h16
end Go.Proofs.Ytadidkkpokpocad
