import Derived.Test.YtafhpcgdlmkbeayTKit
import Derived.Deep.RegionHeld3
import Derived.Deep.QuietTactic
import Derived.BigQuiet
namespace Go.Proofs.Ytafhpcgdlmkbeay
open Go.RowKit
set_option linter.unusedVariables false

set_option maxRecDepth 100000 in
set_option maxHeartbeats 400000 in
theorem specFieldOk (f : Fd) (w : World) (h1 : f.n.size ≤ 1048576) (h2 : f.v.size ≤ 1048576) :
    Calls Try.prog 27 #[f.val] w fun e w' => e = .returned (.bool (fOk f)) ∧ Below w.heap.size w w' := by
  have k1 := specWordOk f.n
  have k2 := specWordOk f.v
  have hm1 : f.n.size ≤ maxLen := by unfold maxLen; omega
  have hm2 : f.v.size ≤ maxLen := by unfold maxLen; omega
  unfold Fd.val fOk
  cases hA : wOk (bytesL f.n) with
  | false =>
    rw [hA] at k1
    simp only [Bool.false_and]
    clear hA
    go_enter Try.func27, Try.ntmps27
    go_wp2_with (go_at_call 46; refine (k1 _ hm1).mono ?_; rintro e w1 ⟨rfl, rfl⟩)
    go_ret
    exact ⟨rfl, (Below.refl _ _).alloc (Nat.le_refl _) _⟩
  | true =>
    rw [hA] at k1
    clear hA
    cases hE : f.n.toList.isEmpty with
    | true =>
      simp only [Bool.not_true, Bool.and_false, Bool.false_and]
      go_enter Try.func27, Try.ntmps27
      go_wp2_with (go_at_call 46; refine (k1 _ hm1).mono ?_; rintro e w1 ⟨rfl, rfl⟩)
      go_ret
      exact ⟨rfl, (Below.refl _ _).alloc (Nat.le_refl _) _⟩
    | false =>
      obtain ⟨b, hb⟩ : ∃ b, wOk (bytesL f.v) = b := ⟨_, rfl⟩
      rw [hb] at k2 ⊢
      simp only [Bool.not_false, Bool.and_true, Bool.true_and]
      clear hb
      go_enter Try.func27, Try.ntmps27
      go_wp2_with (go_at_call 46; first | (refine (k1 _ hm1).mono ?_; clear k1; rintro e w1 ⟨rfl, rfl⟩) | (refine (k2 _ hm2).mono ?_; rintro e w1 ⟨rfl, rfl⟩))
      go_ret
      exact ⟨rfl, (Below.refl _ _).alloc (Nat.le_refl _) _⟩

set_option maxRecDepth 100000 in
set_option maxHeartbeats 400000 in
theorem l3One_any (f : Fd) (w : World) (h1 : f.n.size ≤ 1048576) (h2 : f.v.size ≤ 1048576) :
    Calls Try.prog 47 #[f.val] w fun e w' => e = .returned (.int .i64 (fLen f)) ∧ Below w.heap.size w w' := by
  unfold Fd.val fLen
  go_enter Try.func47, Try.ntmps47
  go_wp2
  go_ret
  exact ⟨rfl, (Below.refl _ _).alloc (Nat.le_refl _) _⟩

set_option maxRecDepth 100000 in
set_option maxHeartbeats 400000 in
theorem l6In_any (n a b : Int) (w : World) :
    Calls Try.prog 28 #[.int .i64 n, .int .i64 a, .int .i64 b] w fun e w' => e = .returned (.bool (decide (a ≤ n) && decide (n ≤ b))) ∧ w' = w := by
  by_cases h1 : a ≤ n
  · by_cases h2 : n ≤ b
    · go_enter Try.func28, Try.ntmps28
      go_wp2
      go_ret
      exact ⟨ret_bool' (by first | (simp; done) | (simp; omega)), rfl⟩
    · have h2' : b < n := by omega
      go_enter Try.func28, Try.ntmps28
      go_wp2
      go_ret
      exact ⟨ret_bool' (by first | (simp; done) | (simp; omega)), rfl⟩
  · have h1' : n < a := by omega
    go_enter Try.func28, Try.ntmps28
    go_wp2
    go_ret
    exact ⟨ret_bool' (by first | (simp; done) | (simp; omega)), rfl⟩

set_option maxRecDepth 100000 in
set_option maxHeartbeats 1000000 in
theorem l3Size_any (fs : List Fd) (a : Option Addr) (n cap : Nat) (w : World) (hf : Fs w a n cap fs) (hbd : fsBd fs) (hn : n ≤ 2000000) :
    Calls Try.prog 29 #[.slice a n cap] w fun e w' => e = .returned (.int .i64 (fSum fs)) ∧ Below w.heap.size w w' := by
  have HF : Hid (Fs w a n cap fs) := hf
  have HB : Hid (fsBd fs) := hbd
  clear hf hbd
  go_enter Try.func29, Try.ntmps29
  go_wp2
  go_loopw [3, 4] (fun s i wr => ∃ k : Nat, k ≤ n ∧ i = .int .i64 k ∧ s = .int .i64 (fSum (fs.take k)) ∧ Below w.heap.size w wr) (fun _ i _ => n - (intOf i).toNat)
  case atStart => exact ⟨0, by omega, rfl, rfl, Below.refl _ _⟩
  case round =>
    obtain ⟨k, hk, rfl, rfl, hbel⟩ := hrel
    have hsb := fSum_bd (fs.take k) (fun f hf => HB.out f (List.mem_of_mem_take hf))
    have hsl : (fs.take k).length ≤ n := by rw [List.length_take]; have := HF.out.len; omega
    obtain ⟨s0, s1⟩ := hsb
    have s2 : fSum (fs.take k) ≤ 2097156 * 2000000 := by omega
    clear s1 hsl
    by_cases hlt : k < n
    · have hlt' : (k : Int) < n := by omega
      have hkl : k < fs.length := by rw [HF.out.len]; exact hlt
      obtain ⟨g, o, rfl⟩ := HF.out.some' (by omega)
      obtain ⟨f, hff⟩ : ∃ f, fs[k] = f := ⟨_, rfl⟩
      obtain ⟨c0, c1, c2⟩ := (HF.out.below hbel).at k hkl
      rw [hff] at c0 c1 c2
      have hfb := HB.out f (by rw [← hff]; exact List.getElem_mem hkl)
      have HS : Hid (fSum (fs.take (k + 1)) = fSum (fs.take k) + fLen f) := by
        show fSum (fs.take (k + 1)) = fSum (fs.take k) + fLen f
        rw [List.take_succ_eq_append_getElem hkl, fSum_snoc, hff]
      have l0 : 0 ≤ fLen f := by unfold fLen; omega
      have l1 : fLen f ≤ 2097156 := by unfold fLen; omega
      have hone := fun w => l3One_any f w hfb.1 hfb.2
      unfold Fd.val at hone
      clear hff hkl hfb
      go_wp2_with (go_at_call 47; refine (hone _).mono ?_; rintro e w1 ⟨rfl, hb1⟩)
      go_roundw
      case rel => exact ⟨k + 1, by omega, by go_num, by rw [HS.out], hbel.trans (hb1.mono hbel.size)⟩
      case measure => simp [intOf]; omega
    · have hall : fs.take k = fs := List.take_of_length_le (by rw [HF.out.len]; omega)
      rw [hall]
      clear hall
      go_wp2
      go_ret
      exact ⟨rfl, hbel⟩
theorem tOk_bad {fs : List Fd} {max : Int} {k : Nat} (hk : k < fs.length) (h : (fOk fs[k] && !fs[k].q) = false) : tOk fs max = false := by
  unfold tOk
  have : fs.all (fun f => fOk f && !f.q) = false := by
    rw [List.all_eq_false]
    exact ⟨fs[k], List.getElem_mem hk, by rw [h]; decide⟩
  rw [this]; rfl
theorem tOk_good {fs : List Fd} {max : Int} (h : ∀ j (hj : j < fs.length), (fOk fs[j] && !fs[j].q) = true) : tOk fs max = (decide (0 ≤ max) && decide (max ≤ 64) && decide (fSum fs ≤ max)) := by
  unfold tOk
  have : fs.all (fun f => fOk f && !f.q) = true := by
    rw [List.all_eq_true]
    intro f hf
    obtain ⟨j, hj, rfl⟩ := List.getElem_of_mem hf
    exact h j hj
  rw [this, Bool.true_and]

theorem keep_tab {w w1 w2 : World} {B n cap : Nat} {a : Option Addr} {fs : List Fd} {x y : Value} (hb : Below w1.heap.size w1 w2) (h0 : w1.cell? ⟨B, 0, none⟩ = some x) (h1 : w1.cell? ⟨B, 1, none⟩ = some y) (h2 : Fs w1 a n cap fs) (h3 : Below w.heap.size w w1) :
    w2.cell? ⟨B, 0, none⟩ = some x ∧ w2.cell? ⟨B, 1, none⟩ = some y ∧ Fs w2 a n cap fs ∧ Below w.heap.size w w2 :=
  ⟨(hb.cell (p := ⟨B, 0, none⟩) (World.block_lt_of_cell? w1 _ h0)).trans h0, (hb.cell (p := ⟨B, 1, none⟩) (World.block_lt_of_cell? w1 _ h1)).trans h1, h2.below hb, h3.trans (hb.mono h3.size)⟩
theorem bdrewT {a w : World} {B : Nat} (h : Below B a w) (n : Nat) : Below B a (w.drewN n) := by
  obtain ⟨h1, h2, h3, h4, h5⟩ := h
  exact ⟨h1, h2, h3, h4, h5⟩
set_option maxRecDepth 100000 in
set_option maxHeartbeats 1000000 in
theorem specTableOk (fs : List Fd) (a : Option Addr) (n cap : Nat) (max : Int) (w : World) (hf : Fs w a n cap fs) (hbd : fsBd fs) (hn : n ≤ 1048576) :
    Calls Try.prog 9 #[.agg #[.slice a n cap, .int .i64 max]] w fun e w' => e = .returned (.bool (tOk fs max)) ∧ Below w.heap.size w w' := by
  have HF : Hid (Fs w a n cap fs) := hf
  have HB : Hid (fsBd fs) := hbd
  clear hf hbd
  go_enter Try.func9, Try.ntmps9
  go_wp2
  go_loopw [3] (fun i wr => ∃ k : Nat, k ≤ n ∧ i = .int .i64 k ∧ (∀ j (hj : j < fs.length), j < k → (fOk fs[j] && !fs[j].q) = true) ∧ Below (w.heap.size + 1) (w.alloc (.cells #[.slice a n cap, .int .i64 max] 29)) wr) (fun i _ => n - (intOf i).toNat)
  case atStart => exact ⟨0, by omega, rfl, by intro j hj h; omega, Below.refl _ _⟩
  case round =>
    obtain ⟨k, hk, rfl, hall, hbel⟩ := hrel
    have HA : Hid (∀ j (hj : j < fs.length), j < k → (fOk fs[j] && !fs[j].q) = true) := hall
    clear hall
    have t0 : wr.cell? ⟨w.heap.size, 0, none⟩ = some (.slice a n cap) := by rw [hbel.cell (p := ⟨w.heap.size, 0, none⟩) (by simp)]; simp
    have t1 : wr.cell? ⟨w.heap.size, 1, none⟩ = some (.int .i64 max) := by rw [hbel.cell (p := ⟨w.heap.size, 1, none⟩) (by simp)]; simp
    have HBW : Hid (Below w.heap.size w wr) := ((Below.refl _ _).alloc (Nat.le_refl _) _).trans (hbel.mono (by omega))
    by_cases hlt : k < n
    · have hlt' : (k : Int) < n := by omega
      have hkl : k < fs.length := by rw [HF.out.len]; exact hlt
      obtain ⟨g, o, rfl⟩ := HF.out.some' (by omega)
      obtain ⟨f, hff⟩ : ∃ f, fs[k] = f := ⟨_, rfl⟩
      obtain ⟨c0, c1, c2⟩ := (HF.out.below HBW.out).at k hkl
      rw [hff] at c0 c1 c2
      have hfb := HB.out f (by rw [← hff]; exact List.getElem_mem hkl)
      have hok := fun w => specFieldOk f w hfb.1 hfb.2
      unfold Fd.val at hok
      cases hfo : fOk f with
      | false =>
        rw [hfo] at hok
        have HV : Hid (tOk fs max = false) := tOk_bad hkl (by rw [hff, hfo]; rfl)
        clear hff hkl hfb hfo
        go_wp2_with (go_at_call 27; refine (hok _).mono ?_; clear hok; rintro e w1 ⟨rfl, hb1⟩)
        go_ret
        exact ⟨ret_bool' HV.out.symm, HBW.out.trans (hb1.mono HBW.out.size)⟩
      | true =>
        rw [hfo] at hok
        obtain ⟨q, hq⟩ : ∃ q, f.q = q := ⟨_, rfl⟩
        rw [hq] at c2 hok
        have HQ : Hid (f.q = q) := hq
        clear hq
        have hwlt : g < wr.heap.size := World.block_lt_of_cell? wr _ c2
        have hwlt2 : w.heap.size < wr.heap.size := World.block_lt_of_cell? wr _ t0
        cases q with
        | true =>
          have HV : Hid (tOk fs max = false) := tOk_bad hkl (by rw [hff, hfo, HQ.out]; rfl)
          clear hff hkl hfb hfo
          go_wp2_with (go_at_call 27; refine (hok _).mono ?_; clear hok; rintro e w1 ⟨rfl, hb1⟩; have c2' := (hb1.cell (p := ⟨g, o + k * 3 + 2, none⟩) hwlt).trans c2; have t0' := (hb1.cell (p := ⟨w.heap.size, 0, none⟩) hwlt2).trans t0)
          go_ret
          exact ⟨ret_bool' HV.out.symm, HBW.out.trans (hb1.mono HBW.out.size)⟩
        | false =>
          have HX : Hid ((fOk fs[k] && !fs[k].q) = true) := by show (fOk fs[k] && !fs[k].q) = true; rw [hff, hfo, HQ.out]; rfl
          clear hff hfb hfo
          go_wp2_with (go_at_call 27; refine (hok _).mono ?_; clear hok; rintro e w1 ⟨rfl, hb1⟩; have c2' := (hb1.cell (p := ⟨g, o + k * 3 + 2, none⟩) hwlt).trans c2; have t0' := (hb1.cell (p := ⟨w.heap.size, 0, none⟩) hwlt2).trans t0)
          go_roundw
          case rel =>
            refine ⟨k + 1, by omega, by go_num, ?_, hbel.trans (hb1.mono (by omega))⟩
            intro j hj h
            by_cases e : j = k
            · subst e; exact HX.out
            · exact HA.out j hj (by omega)
          case measure => simp [intOf]; omega
    · have HV : Hid (tOk fs max = (decide (0 ≤ max) && decide (max ≤ 64) && decide (fSum fs ≤ max))) := tOk_good (fun j hj => HA.out j hj (by have := HF.out.len; omega))
      have hsb := fSum_bd fs HB.out
      rw [HF.out.len] at hsb
      obtain ⟨s0, s1⟩ := hsb
      have hin := fun w => l6In_any max 0 64 w
      have hwlt2 : w.heap.size < wr.heap.size := World.block_lt_of_cell? wr _ t0
      have hmx : Try.prog.follows .mixedOrders = true := by kernel_rfl
      have HFW := HF.out.below HBW.out
      have hsz := fun (w' : World) (h : Fs w' a n cap fs) => l3Size_any fs a n cap w' h HB.out (by omega)
      by_cases hr : 0 ≤ max ∧ max ≤ 64
      · rw [show (decide (0 ≤ max) && decide (max ≤ 64)) = true by simp [hr.1, hr.2]] at hin HV
        have hs0 : fSum fs ≤ 9000000000000 := by omega
        have hFd : Fs wr.drew a n cap fs := HFW.below ((Below.refl _ _).drew)
        have hBd : Below w.heap.size w wr.drew := HBW.out.drew
        have t0d : wr.drew.cell? ⟨w.heap.size, 0, none⟩ = some (.slice a n cap) := t0
        have t1d : wr.drew.cell? ⟨w.heap.size, 1, none⟩ = some (.int .i64 max) := t1
        go_wp2
        go_region_held3 (fun w' => w'.cell? ⟨w.heap.size, 0, none⟩ = some (.slice a n cap) ∧ w'.cell? ⟨w.heap.size, 1, none⟩ = some (.int .i64 max) ∧ Fs w' a n cap fs ∧ Below w.heap.size w w') (first | exact ⟨t0d, t1d, hFd, hBd⟩ | exact keep_tab hbN (by assumption) (by assumption) (by assumption) (by assumption)) ((first | (go_at_call 28; refine (hin _).mono ?_; rintro e w' ⟨rfl, rfl⟩) | (go_at_call 29; refine (hsz _ (by assumption)).mono ?_; rintro e wN ⟨rfl, hbN⟩)))
        go_wp2
        go_ret
        exact ⟨ret_bool' (by rw [HV.out]; rfl), hBd.trans (hbN.mono hBd.size)⟩
      · have hin0 : (decide (0 ≤ max) && decide (max ≤ 64)) = false := by
          by_cases h0 : 0 ≤ max
          · have : ¬ max ≤ 64 := fun h => hr ⟨h0, h⟩
            simp [this]
          · simp [h0]
        rw [hin0] at hin HV
        have t0d : wr.drew.cell? ⟨w.heap.size, 0, none⟩ = some (.slice a n cap) := t0
        have t1d : wr.drew.cell? ⟨w.heap.size, 1, none⟩ = some (.int .i64 max) := t1
        clear hin0 hr
        go_wp2
        go_quiet ((go_at_call 28; exact Calls.quiet_of_same (hin _)))
        go_wp2
        go_ret
        exact ⟨ret_bool' (by rw [HV.out]; rfl), bdrewT HBW.out _⟩
end Go.Proofs.Ytafhpcgdlmkbeay
