import Derived.Test.YtbhoafiolalgaaaHL0
import Derived.Test.YtbhoafiolalgaaaHG
import Derived.Test.YtbhoafiolalgaaaHD3
import Derived.Maps.RangeWalk
namespace Go.Proofs.Ytbhoafiolalgaaa
open Go.RowKit
set_option linter.unusedVariables false

set_option maxRecDepth 100000 in
set_option maxHeartbeats 20000000 in
theorem fnHeadGet_walk (a0 : Option Addr) (len0 cap0 : Nat) (z0 : List Int) (w : World) (w0 : Row w a0 len0 cap0 z0) :
    Calls Try.prog 10 #[.slice a0 len0 cap0] w fun e w' => e = .returned (.bool true) ∧ Below w.heap.size w w' := by
  by_cases c0 : (1048576 : Int) < len0
  · clear w0
    go_enter Try.func10, Try.ntmps10
    go_wp2
    go_ret
    exact ⟨rfl, Below.refl _ _⟩
  have R0 : Hid (Row w a0 len0 cap0 z0) := w0
  clear w0
  go_enter Try.func10, Try.ntmps10
  go_wp2_with fail
  refine (drawHeadGet _ _ _ _ _ R0.out).mono ?_
  rintro e w1 ⟨h, ah, ch, nm, rfl, ⟨lH, sH, F_h⟩, hB1⟩
  have DH : Hid (fsSm h) := sH
  clear sH R0
  have hSG := fun (w' : World) (h1 : Fs w' ah h.length ch h) => specHeadGet h nm ah _ ch w' h1 DH.out.bd (by omega)
  have hIG := fun (w' : World) (h1 : Fs w' ah h.length ch h) => implHeadGet h nm ah _ ch w' h1 DH.out.bd (by omega)
  have hHO := fun (w' : World) (h1 : Fs w' ah h.length ch h) => specHeadOk h ah _ ch w' h1 DH.out.bd (by omega)
  obtain ⟨⟨v, ok⟩, hr⟩ : ∃ r, getH h nm = r := ⟨_, rfl⟩
  have HG : Hid (getH h nm = (v, ok)) := hr
  rw [hr] at hSG hIG
  dsimp only at hSG hIG
  clear hr
  cases hh : hOk h with
  | false =>
    rw [hh] at hHO
    clear hh
    cases ok <;>
    · go_wp2_with (first | (go_at_call 29; refine (hSG _ F_h).mono ?_; clear hSG; rintro e w2 ⟨rfl, hb2⟩; replace F_h := F_h.below hb2) | (go_at_call 30; refine (hIG _ F_h).mono ?_; clear hIG; rintro e w3 ⟨rfl, hb3⟩; replace F_h := F_h.below hb3) | (go_at_call 19; refine (hHO _ F_h).mono ?_; clear hHO; rintro e w4 ⟨rfl, hb4⟩))
      go_ret
      exact ⟨rfl, bt' (bt' (bt' hB1 hb2) hb3) hb4⟩
  | true =>
    rw [hh] at hHO
    have HH : Hid (hOk h = true) := hh
    clear hh
    cases ok <;>
    · go_wp2_with (first | (go_at_call 29; refine (hSG _ F_h).mono ?_; clear hSG; rintro e w2 ⟨rfl, hb2⟩; replace F_h := F_h.below hb2) | (go_at_call 30; refine (hIG _ F_h).mono ?_; clear hIG; rintro e w3 ⟨rfl, hb3⟩; replace F_h := F_h.below hb3) | (go_at_call 19; refine (hHO _ F_h).mono ?_; clear hHO; rintro e w4 ⟨rfl, hb4⟩; replace F_h := F_h.below hb4))
      go_loopw [9] (fun iv wr => ∃ k : Nat, k ≤ h.length ∧ iv = .int .i64 k ∧ fndP h nm k ∧ wr = w4) (fun iv _ => h.length - (intOf iv).toNat)
      case atStart => exact ⟨0, Nat.zero_le _, rfl, rfl, rfl⟩
      case round =>
        obtain ⟨k, hk, rfl, hp, rfl⟩ := hrel
        by_cases hkn : k < h.length
        · have hkn' : (k : Int) < h.length := by omega
          have hk0 : (0 : Int) ≤ k := by omega
          obtain ⟨g, o, rfl⟩ := F_h.some' (by omega)
          obtain ⟨c0, c1, c2⟩ := F_h.at k hkn
          obtain ⟨f, hff⟩ : ∃ f, h[k] = f := ⟨_, rfl⟩
          rw [hff] at c0 c1 c2
          cases he : (f.n.toList == nm.toList) with
          | true =>
            have hG := getH_hit HH.out (find_hit hkn (by rw [hff]; exact eqB_iff.1 he) hp)
            rw [HG.out, hff] at hG
            injection hG with g1 g2
            have he' := eqB_iff.1 he
            first
              | (cases g2; done)
              | (subst g1
                 subst he'
                 clear he hp g2 hff
                 go_wp2
                 go_ret
                 exact ⟨rfl, bt' (bt' (bt' hB1 hb2) hb3) hb4⟩)
          | false =>
            have hne : ¬ f.n = nm := fun e => by rw [eqB_iff.2 e] at he; cases he
            have hp' : fndP h nm (k + 1) := find_skip hkn (by rw [hff]; exact hne) hp
            clear hp hff
            go_wp2
            go_roundw
            case rel => exact ⟨k + 1, by omega, by go_num, hp', trivial⟩
            case measure => simp [intOf]; omega
        · have hkn' : ¬ (k : Int) < h.length := by omega
          have hG : getH h nm = (⟨#[]⟩, false) := getH_none HH.out (by unfold fndP at hp; rwa [List.take_of_length_le (by omega)] at hp)
          rw [HG.out] at hG
          injection hG with g1 g2
          first
            | (cases g2; done)
            | (subst g1
               clear hp g2
               go_wp2
               go_ret
               exact ⟨rfl, bt' (bt' (bt' hB1 hb2) hb3) hb4⟩)
end Go.Proofs.Ytbhoafiolalgaaa
