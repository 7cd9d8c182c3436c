import Derived.Test.YtbhoafiolalgaaaHD2
import Derived.Deep.RegionHeld3
namespace Go.Proofs.Ytbhoafiolalgaaa
open Go.RowKit
set_option linter.unusedVariables false

set_option maxRecDepth 100000 in
set_option maxHeartbeats 2000000 in
theorem drawHeadGet (a : Option Addr) (len cap : Nat) (zs : List Int) (w : World) (hr : Row w a len cap zs) :
    Calls Try.prog 28 #[.slice a len cap] w fun e w' => ∃ (h : List Fd) (ah : Option Addr) (ch : Nat) (nm : ByteArray), e = .returned (.tuple #[.slice ah h.length ch, .string nm]) ∧ DF w' ah ch h ∧ Below w.heap.size w w' := by
  have HR : Hid (Row w a len cap zs) := hr
  clear hr
  go_enter Try.func28, Try.ntmps28
  go_wp2_with fail
  refine (open_st2 _ _ _ _ _ HR.out).mono ?_
  rintro e w1 ⟨rfl, s1, hb1, hz1⟩
  clear HR
  go_wp2_with fail
  refine (l71Head_any w.heap.size 0 _ _ s1 (by decide)).mono ?_
  rintro e w2 ⟨h, ah, ch, rfl, hlh, hsmh, hownh, s2⟩
  have hB2 := s2.bel hb1 (Nat.le_refl _) hb1.size
  have hz2 := s2.kept.size
  have HSM : Hid (fsSm h) := hsmh
  clear s1 hb1 hsmh
  have last : ∀ (w3 : World) (N : Nat), N ≤ 2000 → St2 w2 w3 w.heap.size N → w3.ownsRow w1.heap.size 41 3 (.slice ah h.length ch) h.length (cellsF h) → Below w.heap.size w w3 → Calls Try.prog 52 #[.pointer (some ⟨w.heap.size, 0, none⟩), .slice (some ⟨w3.heap.size, 0, none⟩) 4 4] (w3.alloc (.cells (([⟨#[116, 101]⟩, ⟨#[107, 105, 110, 100]⟩, ⟨#[58, 112, 97, 116, 104]⟩, ⟨#[110, 111]⟩] : List ByteArray).map Value.string).toArray 9)) fun e w' => ∃ t : ByteArray, e = .returned (.string t) ∧ DF w' ah ch h ∧ Below w.heap.size w w' := by
    intro w3 N hN s3 hO hB
    have hc := str_cells2 w3 9 [⟨#[116, 101]⟩, ⟨#[107, 105, 110, 100]⟩, ⟨#[58, 112, 97, 116, 104]⟩, ⟨#[110, 111]⟩] 17 (by decide)
    have s3' := s3.alloc (.cells (([⟨#[116, 101]⟩, ⟨#[107, 105, 110, 100]⟩, ⟨#[58, 112, 97, 116, 104]⟩, ⟨#[110, 111]⟩] : List ByteArray).map Value.string).toArray 9)
    have hO3 := hO.alloc (.cells (([⟨#[116, 101]⟩, ⟨#[107, 105, 110, 100]⟩, ⟨#[58, 112, 97, 116, 104]⟩, ⟨#[110, 111]⟩] : List ByteArray).map Value.string).toArray 9)
    have hB3 := hB.alloc hB.size (.cells (([⟨#[116, 101]⟩, ⟨#[107, 105, 110, 100]⟩, ⟨#[58, 112, 97, 116, 104]⟩, ⟨#[110, 111]⟩] : List ByteArray).map Value.string).toArray 9)
    have hz3 := s3.kept.size
    refine (of_2 w.heap.size N w3.heap.size 4 4 17 _ _ s3'.self (by omega) (by decide) (by decide) (by omega) hc).mono ?_
    rintro e w4 ⟨t4, rfl, ht4, k4⟩
    exact ⟨t4, rfl, ⟨by omega, HSM.out, own_Fs (own_st2 hO3 k4 (by omega))⟩, k4.bel hB3 (Nat.le_refl _) hB3.size⟩
  have HL : Hid _ := last
  clear last
  by_cases h0 : 0 < h.length
  · have h0' : (0 : Int) < h.length := by omega
    go_wp2_with fail
    refine (pick_st2 w.heap.size 1000 3 _ _ s2.self (by omega) (by decide)).mono ?_
    rintro e w3 ⟨v3, rfl, v30, v31, k3, _⟩
    have hB3 := k3.bel hB2 (Nat.le_refl _) hB2.size
    have hO3 := own_st2 hownh k3 (by omega)
    have s3 := s2.step k3
    have hz3 := k3.kept.size
    clear hB2 hownh
    by_cases hv : 0 < v3
    · have hmx : Try.prog.follows .mixedOrders = true := by kernel_rfl
      have sA : St2 w3.drew w3.drew w.heap.size 1001 := (k3.self.grow ((Below.refl _ _).drew)).self
      have hOA : w3.drew.ownsRow w1.heap.size 41 3 (.slice ah h.length ch) h.length (cellsF h) := hO3
      have hBA : Below w.heap.size w w3.drew := hB3.drew
      have hpk := pick_st2 w.heap.size 1001 (h.length : Int) _ _ sA (by omega) (by omega)
      have HSS : Hid _ := s3
      clear k3 hO3 hB3 sA s3 s2 HL
      go_wp2
      go_region_law ((go_simp; refine hpk.mono ?_; clear hpk; rintro e w4 ⟨v4, rfl, v40, v41, k4, _⟩; have hO4 := own_st2 hOA k4 (by omega); have hB4 := k4.bel hBA (Nat.le_refl _) hBA.size; have F4 := own_Fs hO4; obtain ⟨g, o, rfl⟩ := F4.some' (by omega); obtain ⟨kn, rfl⟩ : ∃ kn : Nat, v4 = (kn : Int) := ⟨v4.toNat, by omega⟩; obtain ⟨y0, y1, y2⟩ := F4.at kn (by omega); have hkl : (kn : Int) < h.length := by omega))
      all_goals
        go_wp2
        go_ret2
        exact ⟨h, _, ch, _, rfl, ⟨by omega, HSM.out, own_Fs hO4⟩, hB4⟩
    · have hv' : ¬ (0 : Int) < v3 := hv
      have hla := HL.out w3 1001 (by decide) k3 hO3 hB3
      clear HL k3 s3 s2 hO3 hB3
      go_wp2_with (go_at_call 52; refine hla.mono ?_; clear hla; rintro e w4 ⟨t4, rfl, hD, hB4⟩)
      go_ret2
      exact ⟨h, ah, ch, t4, rfl, hD, hB4⟩
  · have h0' : ¬ (0 : Int) < h.length := by omega
    have hla := HL.out w2 1000 (by decide) s2.self hownh hB2
    clear HL s2 hownh hB2
    go_wp2_with (go_at_call 52; refine hla.mono ?_; clear hla; rintro e w4 ⟨t4, rfl, hD, hB4⟩)
    go_ret2
    exact ⟨h, ah, ch, t4, rfl, hD, hB4⟩
end Go.Proofs.Ytbhoafiolalgaaa
