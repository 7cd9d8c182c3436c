import Derived.Test.YtbhoafiolalgaaaGreatHD1
import Derived.Deep.RegionHeld3
namespace Go.Proofs.YtbhoafiolalgaaaGreat
open Go.RowKit
set_option linter.unusedVariables false

/-- Drawn fields in memory. -/
structure DF (w : World) (a : Option Addr) (c : Nat) (fs : List Fd) : Prop where
  len : fs.length ≤ 21
  sm : fsSm fs
  fs : Fs w a fs.length c fs

set_option maxRecDepth 100000 in
set_option maxHeartbeats 1000000 in
theorem drawHeadWrite (a : Option Addr) (len cap : Nat) (zs : List Int) (w : World) (hr : Row w a len cap zs) :
    Calls Tryz.prog 9 #[.slice a len cap] w fun e w' => ∃ (fs h : List Fd) (max : Int) (a' ah : Option Addr) (c' ch : Nat), e = .returned (.tuple #[.agg #[.slice a' fs.length c', .int .i64 max], .slice ah h.length ch]) ∧ DF w' a' c' fs ∧ DF w' ah ch h ∧ Below w.heap.size w w' := by
  have HR : Hid (Row w a len cap zs) := hr
  clear hr
  have hb0 : Below w.heap.size w (w.alloc (.cells #[.slice none 0 0, .int .i64 0] 25)) := (Below.refl _ _).alloc (Nat.le_refl _) _
  have hR0 : Hid ((w.alloc (.cells #[.slice none 0 0, .int .i64 0] 25)).heap[w.heap.size]? = some (.cells #[.slice none 0 0, .int .i64 0] 25 (0, 0))) := heap_alloc_last w _
  go_enter Tryz.func9, Tryz.ntmps9
  go_wp2_with fail
  refine (open_st2 _ _ _ _ _ (HR.out.below hb0)).mono ?_
  rw [World.size_alloc]
  rintro e w1 ⟨rfl, s1, hb1, hz1⟩
  have hR1 := (hb1.block w.heap.size (by simp)).trans hR0.out
  have hB1 : Below w.heap.size w w1 := hb0.trans (hb1.mono (by simp))
  clear hR0 hb0 hb1
  go_wp2_with fail
  refine (l71Table_any (w.heap.size + 1) 0 _ _ s1 (by decide)).mono ?_
  rintro e w2 ⟨fs, max, a', c', rfl, hl, hsm, m0, m1, hown, s2⟩
  have hR2 := s2.blk hR1 (by omega)
  have hB2 := s2.bel hB1 (by omega) hB1.size
  have hz2 := s2.kept.size
  clear s1 hR1 hB1
  go_wp2_with fail
  refine (l71Head_any (w.heap.size + 1) 1000 _ _ s2.self (by decide)).mono ?_
  rintro e w3 ⟨h, ah, ch, rfl, hlh, hsmh, hownh, k3⟩
  have hR3 := k3.blk hR2 (by omega)
  have hB3 := k3.bel hB2 (by omega) hB2.size
  have hO3 := own_st2 hown k3 (by omega)
  have HSM : Hid (fsSm fs) := hsm
  have HSH : Hid (fsSm h) := hsmh
  clear s2 k3 hR2 hB2 hown hsm hsmh
  go_wp2_with (refine wpList_store_row rfl 25 _ _ rfl w.heap.size #[.slice a' fs.length c', .int .i64 max] rfl rfl 25 _ hR3 infoT2 rfl (by simp [Value.oneCell']) ?_)
  exact bodyPost_ret (results_cell_tmp rfl _ _ w.heap.size #[.slice a' fs.length c', .int .i64 max] rfl (load_tab (setRow_heap _ _ _ _ _ _ hR3))) rfl ⟨fs, h, max, a', ah, c', ch, rfl, ⟨by omega, HSM.out, own_Fs (own_setRowT _ hO3 hR3 (by decide))⟩, ⟨by omega, HSH.out, own_Fs (own_setRowT _ hownh hR3 (by decide))⟩, bel_setRow _ hB3 hB3.size (Nat.le_refl _)⟩

end Go.Proofs.YtbhoafiolalgaaaGreat
