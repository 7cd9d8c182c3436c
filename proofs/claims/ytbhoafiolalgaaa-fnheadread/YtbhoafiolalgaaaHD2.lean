import Derived.Test.YtbhoafiolalgaaaHD1
import Derived.Deep.RegionHeld3
namespace Go.Proofs.Ytbhoafiolalgaaa
open Go.RowKit
set_option linter.unusedVariables false

/-- Drawn fields in memory. -/
structure DF (w : World) (a : Option Addr) (c : Nat) (fs : List Fd) : Prop where
  len : fs.length ≤ 21
  sm : fsSm fs
  fs : Fs w a fs.length c fs

set_option maxRecDepth 100000 in
set_option maxHeartbeats 1000000 in
theorem drawHeadWrite (a : Option Addr) (len cap : Nat) (zs : List Int) (w : World) (hr : Row w a len cap zs) :
    Calls Try.prog 14 #[.slice a len cap] w fun e w' => ∃ (fs h : List Fd) (max : Int) (a' ah : Option Addr) (c' ch : Nat), e = .returned (.tuple #[.agg #[.slice a' fs.length c', .int .i64 max], .slice ah h.length ch]) ∧ DF w' a' c' fs ∧ DF w' ah ch h ∧ Below w.heap.size w w' := by
  have HR : Hid (Row w a len cap zs) := hr
  clear hr
  have hb0 : Below w.heap.size w (w.alloc (.cells #[.slice none 0 0, .int .i64 0] 25)) := (Below.refl _ _).alloc (Nat.le_refl _) _
  have hR0 : Hid ((w.alloc (.cells #[.slice none 0 0, .int .i64 0] 25)).heap[w.heap.size]? = some (.cells #[.slice none 0 0, .int .i64 0] 25 (0, 0))) := heap_alloc_last w _
  go_enter Try.func14, Try.ntmps14
  go_wp2_with fail
  refine (open_st2 _ _ _ _ _ (HR.out.below hb0)).mono ?_
  rw [World.size_alloc]
  rintro e w1 ⟨rfl, s1, hb1, hz1⟩
  have hR1 := (hb1.block w.heap.size (by simp)).trans hR0.out
  have hB1 : Below w.heap.size w w1 := hb0.trans (hb1.mono (by simp))
  clear hR0 hb0 hb1
  go_wp2_with fail
  refine (l71Table_any (w.heap.size + 1) 0 _ _ s1 (by decide)).mono ?_
  rintro e w2 ⟨fs, max, a', c', rfl, hl, hsm, m0, m1, hown, s2⟩
  have hR2 := s2.blk hR1 (by omega)
  have hB2 := s2.bel hB1 (by omega) hB1.size
  have hz2 := s2.kept.size
  clear s1 hR1 hB1
  go_wp2_with fail
  refine (l71Head_any (w.heap.size + 1) 1000 _ _ s2.self (by decide)).mono ?_
  rintro e w3 ⟨h, ah, ch, rfl, hlh, hsmh, hownh, k3⟩
  have hR3 := k3.blk hR2 (by omega)
  have hB3 := k3.bel hB2 (by omega) hB2.size
  have hO3 := own_st2 hown k3 (by omega)
  have HSM : Hid (fsSm fs) := hsm
  have HSH : Hid (fsSm h) := hsmh
  clear s2 k3 hR2 hB2 hown hsm hsmh
  go_wp2_with (refine wpList_store_row rfl 25 _ _ rfl w.heap.size #[.slice a' fs.length c', .int .i64 max] rfl rfl 25 _ hR3 infoT2 rfl (by simp [Value.oneCell']) ?_)
  exact bodyPost_ret (results_cell_tmp rfl _ _ w.heap.size #[.slice a' fs.length c', .int .i64 max] rfl (load_tab (setRow_heap _ _ _ _ _ _ hR3))) rfl ⟨fs, h, max, a', ah, c', ch, rfl, ⟨by omega, HSM.out, own_Fs (own_setRowT _ hO3 hR3 (by decide))⟩, ⟨by omega, HSH.out, own_Fs (own_setRowT _ hownh hR3 (by decide))⟩, bel_setRow _ hB3 hB3.size (Nat.le_refl _)⟩

set_option maxRecDepth 100000 in
set_option maxHeartbeats 1000000 in
theorem drawHeadOk (a : Option Addr) (len cap : Nat) (zs : List Int) (w : World) (hr : Row w a len cap zs) :
    Calls Try.prog 27 #[.slice a len cap] w fun e w' => ∃ (h : List Fd) (ah : Option Addr) (ch : Nat), e = .returned (.slice ah h.length ch) ∧ DF w' ah ch h ∧ Below w.heap.size w w' := by
  have HR : Hid (Row w a len cap zs) := hr
  clear hr
  go_enter Try.func27, Try.ntmps27
  go_wp2_with fail
  refine (open_st2 _ _ _ _ _ HR.out).mono ?_
  rintro e w1 ⟨rfl, s1, hb1, hz1⟩
  clear HR
  go_wp2_with fail
  refine (l71Head_any w.heap.size 0 _ _ s1 (by decide)).mono ?_
  rintro e w2 ⟨h, ah, ch, rfl, hlh, hsmh, hownh, s2⟩
  have hB2 := s2.bel hb1 (Nat.le_refl _) hb1.size
  clear s1 hb1
  go_wp2_with fail
  refine (pick_st2 w.heap.size 1000 5 _ _ s2.self (by omega) (by decide)).mono ?_
  rintro e w3 ⟨v3, rfl, v30, v31, k3, _⟩
  have hB3 := k3.bel hB2 (Nat.le_refl _) hB2.size
  have hO3 := own_st2 hownh k3 (by omega)
  have s3 := k3.self
  have hz3 := k3.kept.size
  have hz2 := s2.kept.size
  clear s2 k3 hB2 hownh
  by_cases e0 : (v3 == 0) = true
  · go_wp2_with fail
    have hc3 := str_cells2 w3 9 [⟨#[]⟩, ⟨#[65]⟩, ⟨#[111, 107]⟩] 17 (by decide)
    have s3' := s3.alloc (.cells (([⟨#[]⟩, ⟨#[65]⟩, ⟨#[111, 107]⟩] : List ByteArray).map Value.string).toArray 9)
    have hO3' := hO3.alloc (.cells (([⟨#[]⟩, ⟨#[65]⟩, ⟨#[111, 107]⟩] : List ByteArray).map Value.string).toArray 9)
    have hB3' := hB3.alloc hB3.size (.cells (([⟨#[]⟩, ⟨#[65]⟩, ⟨#[111, 107]⟩] : List ByteArray).map Value.string).toArray 9)
    refine (of_2 w.heap.size 1001 w3.heap.size 3 3 17 _ _ s3'.self (by omega) (by decide) (by decide) (by omega) hc3).mono ?_
    rintro e w4 ⟨t4, rfl, ht4, k4⟩
    have hB4 := k4.bel hB3' (Nat.le_refl _) hB3'.size
    have hO4 := own_st2 hO3' k4 (by omega)
    have hz4 : w1.heap.size ≤ w4.heap.size := by have := k4.kept.size; simp at this; omega
    clear hc3 s3' hO3' hB3' k4 s3 hB3 hO3
    have HE : Hid ((w4.alloc (.cells #[.string t4, .string ⟨#[]⟩, .bool false] 41)).ownsRow w1.heap.size 41 3 (.slice ah h.length ch) h.length (cellsF h)) := hO4.alloc _
    have hBE : Below w.heap.size w (w4.alloc (.cells #[.string t4, .string ⟨#[]⟩, .bool false] 41)) := hB4.alloc hB4.size _
    go_wp2_with (at_builtin; refine wpList_appFs _ rfl _ _ rfl w1.heap.size _ _ _ rfl HE.out (some ⟨w4.heap.size, 0, none⟩) 1 1 [⟨t4, ⟨#[]⟩, false⟩] rfl (Fs_one3 w4 ⟨t4, ⟨#[]⟩, false⟩) (by omega) (by simp; omega) ?_; intro v9 w9 hown9 hgrow9)
    have hB9 : Below w.heap.size w w9 := hBE.grown hgrow9 hBE.size (fun q hq => by have := (HE.out.lt q hq).1; omega)
    obtain ⟨a9, c9, rfl⟩ := own_formT hown9
    rw [← cellsF_append] at hown9
    have hl9 : (h ++ [(⟨t4, ⟨#[]⟩, false⟩ : Fd)]).length = h.length + 1 := by simp
    rw [← hl9] at hown9 ⊢
    clear hgrow9 HE
    go_wp2
    go_ret
    exact ⟨_, a9, c9, rfl, ⟨by omega, fsSm_app1 hsmh ⟨by show t4.size ≤ 20; omega, by show (0 : Nat) ≤ 20; decide⟩, own_Fs hown9⟩, hB9⟩
  · have e0' : (v3 == 0) = false := by simpa using e0
    clear e0
    go_wp2
    go_ret
    exact ⟨h, ah, ch, rfl, ⟨by omega, hsmh, own_Fs hO3⟩, hB3⟩
end Go.Proofs.Ytbhoafiolalgaaa
