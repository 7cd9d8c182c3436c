import Derived.Test.YtbhoafiolalgaaaHL0
import Derived.Test.YtbhoafiolalgaaaHI7
import Derived.Test.YtbhoafiolalgaaaHI4
import Derived.Test.YtbhoafiolalgaaaHD2
import Derived.Deep.RegionHeld3
import Derived.Maps.RangeWalk
import Derived.Test.YtbhoafiolalgaaaHM3
namespace Go.Proofs.Ytbhoafiolalgaaa
open Go.RowKit
set_option linter.unusedVariables false

theorem hOk_app_bad (h : List Fd) : hOk (h ++ [⟨⟨#[]⟩, ⟨#[120]⟩, false⟩]) = false :=
  hOk_bad (k := h.length) (by simp) (by rw [List.getElem_append_right (Nat.le_refl _)]; simp only [Nat.sub_self, List.getElem_cons_zero]; decide +kernel)
theorem hOk_many {h : List Fd} (hl : 6 < h.length) : hOk h = false := by
  unfold hOk
  rw [decide_eq_false (by omega), Bool.and_false]
set_option maxRecDepth 100000 in
set_option maxHeartbeats 20000000 in
theorem fnHeadLess_walk (a0 : Option Addr) (len0 cap0 : Nat) (z0 : List Int) (a1 : Option Addr) (len1 cap1 : Nat) (z1 : List Int) (w : World) (w0 : Row w a0 len0 cap0 z0) (w1 : Row w a1 len1 cap1 z1) :
    Calls Try.prog 9 #[.slice a0 len0 cap0, .slice a1 len1 cap1] w fun e w' => e = .returned (.bool true) ∧ Below w.heap.size w w' := by
  by_cases c0 : (1048576 : Int) < len0
  · clear w0 w1
    go_enter Try.func9, Try.ntmps9
    go_wp2
    go_ret
    exact ⟨rfl, Below.refl _ _⟩
  by_cases c1 : (1048576 : Int) < len1
  · clear w0 w1
    go_enter Try.func9, Try.ntmps9
    go_wp2
    go_ret
    exact ⟨rfl, Below.refl _ _⟩
  have R0 : Hid (Row w a0 len0 cap0 z0) := w0
  have R1 : Hid (Row w a1 len1 cap1 z1) := w1
  clear w0 w1
  go_enter Try.func9, Try.ntmps9
  go_wp2_with fail
  refine (drawHeadOk _ _ _ _ _ R0.out).mono ?_
  rintro e w1 ⟨h, ah, ch, rfl, ⟨lH, sH, F_h⟩, hB1⟩
  have DH : Hid (fsSm h) := sH
  clear sH R0
  have hIO := fun (w' : World) (h1 : Fs w' ah h.length ch h) => implHeadOk h ah _ ch w' h1 DH.out.bd (by omega)
  have hSO := fun (w' : World) (h1 : Fs w' ah h.length ch h) => specHeadOk h ah _ ch w' h1 DH.out.bd (by omega)
  cases hh : hOk h with
  | false =>
    rw [hh] at hIO hSO
    have hSO2 := hSO
    clear hh
    go_wp2_with (first | (go_at_call 26; refine (hIO _ F_h).mono ?_; clear hIO; rintro e w2 ⟨rfl, hb2⟩; replace F_h := F_h.below hb2) | (go_at_call 19; refine (hSO _ F_h).mono ?_; clear hSO; rintro e w3 ⟨rfl, hb3⟩; replace F_h := F_h.below hb3) | (go_at_call 19; refine (hSO2 _ F_h).mono ?_; clear hSO2; rintro e w4 ⟨rfl, hb4⟩))
    go_ret
    exact ⟨rfl, bt' (bt' (bt' hB1 hb2) hb3) hb4⟩
  | true =>
    rw [hh] at hIO hSO
    have HH : Hid (hOk h = true) := hh
    clear hh
    go_wp2_with (first | (go_at_call 26; refine (hIO _ F_h).mono ?_; clear hIO; rintro e w2 ⟨rfl, hb2⟩; replace F_h := F_h.below hb2) | (go_at_call 19; refine (hSO _ F_h).mono ?_; clear hSO; rintro e w3 ⟨rfl, hb3⟩; replace F_h := F_h.below hb3; have hB3 := bt' (bt' hB1 hb2) hb3; clear hB1 hb2 hb3; have hz3 : Hid ((w3.alloc (.cells #[] 41)).ownsRow w3.heap.size 41 3 (.slice (some ⟨w3.heap.size, 0, none⟩) 0 0) 0 []) := own_zero3 w3 41; have hb3a : Below w3.heap.size w3 (w3.alloc (.cells #[] 41)) := (Below.refl _ _).alloc (Nat.le_refl _) _) | (at_builtin; refine wpList_appFs _ rfl _ _ rfl w3.heap.size _ _ _ rfl hz3.out ah h.length ch h rfl (F_h.below hb3a) (by omega) (by simp) ?_; clear hz3; intro v4 w4 hown4 hgrow4; rw [Nat.zero_add, List.nil_append] at hown4; obtain ⟨a4, c4, rfl⟩ := own_formT hown4; have hb4 : Below w3.heap.size w3 w4 := hb3a.grown (show (w3.alloc (.cells #[] 41)).grownBy w4 (some w3.heap.size) from hgrow4) hb3a.size (fun q hq => by injection hq with hq; omega); clear hgrow4 hb3a; have hz4 : Hid ((w4.alloc (.cells #[.string ⟨#[]⟩, .string ⟨#[120]⟩, .bool false] 41)).ownsRow w3.heap.size 41 3 (.slice a4 h.length c4) h.length (cellsF h)) := hown4.alloc _; clear hown4; have hb4a : Below w3.heap.size w3 (w4.alloc (.cells #[.string ⟨#[]⟩, .string ⟨#[120]⟩, .bool false] 41)) := hb4.alloc hb4.size _) | (at_builtin; refine wpList_appFs _ rfl _ _ rfl w3.heap.size _ _ _ rfl hz4.out (some ⟨w4.heap.size, 0, none⟩) 1 1 [⟨⟨#[]⟩, ⟨#[120]⟩, false⟩] rfl (Fs_one3 w4 ⟨⟨#[]⟩, ⟨#[120]⟩, false⟩) (by omega) (by simp; have := hb4.size; omega) ?_; intro v5 w5 hown5 hgrow5; rw [← cellsF_append] at hown5; obtain ⟨a5, c5, rfl⟩ := own_formT hown5; have hb5 : Below w3.heap.size w3 w5 := hb4a.grown hgrow5 hb4a.size (fun q hq => by have := (hz4.out.lt q hq).1; omega); clear hgrow5 hz4 hb4a hb4; have F_b : Fs w5 a5 (h.length + 1) c5 (h ++ [⟨⟨#[]⟩, ⟨#[120]⟩, false⟩]) := own_Fs hown5; clear hown5; replace F_h := F_h.below hb5; have hB5 := bt' hB3 hb5; have hz5 : Hid ((w5.alloc (.cells #[] 41)).ownsRow w5.heap.size 41 3 (.slice (some ⟨w5.heap.size, 0, none⟩) 0 0) 0 []) := own_zero3 w5 41; have hb5a : Below w5.heap.size w5 (w5.alloc (.cells #[] 41)) := (Below.refl _ _).alloc (Nat.le_refl _) _) | (at_builtin; refine wpList_appFs _ rfl _ _ rfl w5.heap.size _ _ _ rfl hz5.out ah h.length ch h rfl (F_h.below hb5a) (by omega) (by simp) ?_; clear hz5; intro v6 w6 hown6 hgrow6; rw [Nat.zero_add, List.nil_append] at hown6; obtain ⟨a6, c6, rfl⟩ := own_formT hown6; have hb6 : Below w5.heap.size w5 w6 := hb5a.grown (show (w5.alloc (.cells #[] 41)).grownBy w6 (some w5.heap.size) from hgrow6) hb5a.size (fun q hq => by injection hq with hq; omega); clear hgrow6 hb5a hB3 hb5))
    have hh6 := (hOk_parts HH.out).2
    go_loopw [8] (fun hv wr => ∃ (gs : List Fd) (a : Option Addr) (c : Nat), gs.length ≤ 7 ∧ hv = .slice a gs.length c ∧ fsSm gs ∧ wr.ownsRow w5.heap.size 41 3 (.slice a gs.length c) gs.length (cellsF gs) ∧ Below w5.heap.size w5 wr) (fun hv _ => 10 - lenT hv)
    case atStart => exact ⟨h, a6, c6, by omega, rfl, DH.out, hown6, hb6⟩
    case round =>
      clear hown6 hb6
      obtain ⟨gs, a, c, hgl, rfl, hsm, hO, hbr⟩ := hrel
      have hzr := hbr.size
      by_cases hg : gs.length ≤ 6
      · have hg' : (gs.length : Int) ≤ 6 := by omega
        have HE : Hid ((wr.alloc (.cells #[.string ⟨#[97]⟩, .string ⟨#[]⟩, .bool false] 41)).ownsRow w5.heap.size 41 3 (.slice a gs.length c) gs.length (cellsF gs)) := hO.alloc _
        have hbE : Below w5.heap.size w5 (wr.alloc (.cells #[.string ⟨#[97]⟩, .string ⟨#[]⟩, .bool false] 41)) := hbr.alloc hbr.size _
        clear F_b F_h
        go_wp2_with (at_builtin; refine wpList_appFs _ rfl _ _ rfl w5.heap.size _ _ _ rfl HE.out (some ⟨wr.heap.size, 0, none⟩) 1 1 [⟨⟨#[97]⟩, ⟨#[]⟩, false⟩] rfl (Fs_one3 wr ⟨⟨#[97]⟩, ⟨#[]⟩, false⟩) (by omega) (by simp; omega) ?_; intro v9 w9 hown9 hgrow9)
        have hb9 : Below w5.heap.size w5 w9 := hbE.grown hgrow9 hbE.size (fun q hq => by have := (HE.out.lt q hq).1; omega)
        obtain ⟨a9, c9, rfl⟩ := own_formT hown9
        rw [← cellsF_append] at hown9
        have hl9 : (gs ++ [(⟨⟨#[97]⟩, ⟨#[]⟩, false⟩ : Fd)]).length = gs.length + 1 := by simp
        rw [← hl9] at hown9 ⊢
        clear hgrow9 HE hO hbr hbE
        go_wp2
        go_roundw
        case rel => exact ⟨_, a9, c9, by omega, rfl, fsSm_app1 hsm ⟨by decide, by decide⟩, hown9, hb9⟩
        case measure => simp [lenT]; omega
      · have hg' : (6 : Int) < gs.length := by omega
        have hnz : ¬ (h.length : Int) + 1 = 0 := by omega
        obtain ⟨m, hm⟩ : ∃ m : Int, (len1 : Int).tmod (h.length + 1) = m := ⟨_, rfl⟩
        have hm' : (len1 : Int) % (h.length + 1) = m := by rw [← hm, Int.tmod_eq_emod_of_nonneg (by omega)]
        have hm0 : 0 ≤ m := by rw [← hm']; exact Int.emod_nonneg _ hnz
        have hm1 : m ≤ h.length := by have := Int.emod_lt_of_pos (len1 : Int) (show 0 < (h.length : Int) + 1 by omega); omega
        obtain ⟨k, rfl⟩ : ∃ k : Nat, m = (k : Int) := ⟨m.toNat, by omega⟩
        replace F_h := F_h.below hbr
        replace F_b := F_b.below hbr
        have F_g := own_Fs hO
        have F_k := F_h.take k (by omega)
        have hsl := F_h.upto k (k : Int) rfl (by omega)
        have hk1 := fun (w' : World) (h1 : Fs w' ah k ch (h.take k)) => implHeadOk (h.take k) ah k ch w' h1 (hOk_bd (hOk_take HH.out k)) (by omega)
        have hk2 := fun (w' : World) (h1 : Fs w' a5 (h.length + 1) c5 (h ++ [⟨⟨#[]⟩, ⟨#[120]⟩, false⟩])) => implHeadOk (h ++ [⟨⟨#[]⟩, ⟨#[120]⟩, false⟩]) a5 _ c5 w' h1 (fsSm_app1 DH.out ⟨by decide, by decide⟩).bd (by omega)
        have hk3 := fun (w' : World) (h1 : Fs w' a gs.length c gs) => implHeadOk gs a _ c w' h1 hsm.bd (by omega)
        rw [hOk_take HH.out k] at hk1
        rw [hOk_app_bad] at hk2
        rw [hOk_many (by omega)] at hk3
        have hB9 := bt' hB5 hbr
        clear hO hbr hm0 hm1 hB5
        go_wp2_with (first | (go_at_call 26; refine (hk1 _ F_k).mono ?_; clear hk1; rintro e w7 ⟨rfl, hb7⟩; replace F_b := F_b.below hb7; replace F_g := F_g.below hb7) | (go_at_call 26; refine (hk2 _ F_b).mono ?_; clear hk2; rintro e w8 ⟨rfl, hb8⟩; replace F_g := F_g.below hb8) | (go_at_call 26; refine (hk3 _ F_g).mono ?_; clear hk3; rintro e w9 ⟨rfl, hb9⟩))
        go_ret
        exact ⟨rfl, bt' (bt' (bt' hB9 hb7) hb8) hb9⟩
end Go.Proofs.Ytbhoafiolalgaaa
