import Derived.Test.YtdnajdobmlgmiaaBB
import Derived.Test.YtdnajdobmlgmiaaBG
namespace Go.Proofs.Ytdnajdobmlgmiaa
open Go.RowKit
set_option linter.unusedVariables false

set_option maxRecDepth 100000 in
set_option maxHeartbeats 400000 in
theorem implFieldOk (f : Fd) (w : World) (h1 : f.n.size ≤ 1048576) (h2 : f.v.size ≤ 1048576) :
    Calls Try.prog 71 #[f.val] w fun e w' => e = .returned (.bool (fOk f)) ∧ Below w.heap.size w w' := by
  have k1 := implOk f.n
  have k2 := implOk f.v
  have hm1 : f.n.size ≤ maxLen := by unfold maxLen; omega
  have hm2 : f.v.size ≤ maxLen := by unfold maxLen; omega
  have hb0 : Below w.heap.size w (w.alloc (.cells #[.string f.n, .string f.v, .bool f.q] 98)) := (Below.refl _ _).alloc (Nat.le_refl _) _
  unfold Fd.val fOk
  cases hE : f.n.toList.isEmpty with
  | true =>
    simp only [Bool.not_true, Bool.and_false, Bool.false_and]
    go_enter Try.func71, Try.ntmps71
    go_wp2
    go_ret
    exact ⟨rfl, hb0⟩
  | false =>
    simp only [Bool.not_false, Bool.and_true]
    cases hA : wOk (bytesL f.n) with
    | false =>
      rw [hA] at k1
      simp only [Bool.false_and]
      clear hA
      go_enter Try.func71, Try.ntmps71
      go_wp2_with (go_at_call 81; refine (k1 _ hm1).mono ?_; rintro e w1 ⟨rfl, hb1⟩)
      go_ret
      exact ⟨rfl, hb0.trans (hb1.mono (by simp))⟩
    | true =>
      rw [hA] at k1
      obtain ⟨b, hb⟩ : ∃ b, wOk (bytesL f.v) = b := ⟨_, rfl⟩
      rw [hb] at k2 ⊢
      simp only [Bool.true_and]
      clear hA hb
      go_enter Try.func71, Try.ntmps71
      go_wp2_with (go_at_call 81; first | (refine (k1 _ hm1).mono ?_; clear k1; rintro e w1 ⟨rfl, hb1⟩; have c1 : w1.cell? ⟨w.heap.size, 1, none⟩ = some (.string f.v) := (by rw [hb1.cell (p := ⟨w.heap.size, 1, none⟩) (by simp)]; simp)) | (refine (k2 _ hm2).mono ?_; rintro e w2 ⟨rfl, hb2⟩))
      go_ret
      have hb01 := hb0.trans (hb1.mono (by simp))
      exact ⟨rfl, hb01.trans (hb2.mono hb01.size)⟩

set_option maxRecDepth 100000 in
set_option maxHeartbeats 400000 in
theorem fieldSize_any (f : Fd) (w : World) (h1 : f.n.size ≤ 1048576) (h2 : f.v.size ≤ 1048576) :
    Calls Try.prog 83 #[f.val] w fun e w' => e = .returned (.int .i64 (fLen f)) ∧ Below w.heap.size w w' := by
  unfold Fd.val fLen
  go_enter Try.func83, Try.ntmps83
  go_wp2
  go_ret
  exact ⟨rfl, (Below.refl _ _).alloc (Nat.le_refl _) _⟩

set_option maxRecDepth 100000 in
set_option maxHeartbeats 400000 in
theorem tableMaxOk_any (n : Int) (w : World) :
    Calls Try.prog 70 #[.int .i64 n] w fun e w' => e = .returned (.bool (decide (0 ≤ n) && decide (n ≤ 64))) ∧ w' = w := by
  by_cases h1 : 0 ≤ n
  · by_cases h2 : n ≤ 64
    · go_enter Try.func70, Try.ntmps70
      go_wp2
      go_ret
      exact ⟨ret_bool' (by first | (simp; done) | (simp; omega)), rfl⟩
    · have h2' : 64 < n := by omega
      go_enter Try.func70, Try.ntmps70
      go_wp2
      go_ret
      exact ⟨ret_bool' (by first | (simp; done) | (simp; omega)), rfl⟩
  · have h1' : n < 0 := by omega
    go_enter Try.func70, Try.ntmps70
    go_wp2
    go_ret
    exact ⟨ret_bool' (by first | (simp; done) | (simp; omega)), rfl⟩

set_option maxRecDepth 100000 in
set_option maxHeartbeats 1000000 in
theorem fieldsSize_any (fs : List Fd) (a : Option Addr) (n cap : Nat) (w : World) (hf : Fs w a n cap fs) (hbd : fsBd fs) (hn : n ≤ 2000000) :
    Calls Try.prog 72 #[.slice a n cap] w fun e w' => e = .returned (.int .i64 (fSum fs)) ∧ Below w.heap.size w w' := by
  have HF : Hid (Fs w a n cap fs) := hf
  have HB : Hid (fsBd fs) := hbd
  clear hf hbd
  go_enter Try.func72, Try.ntmps72
  go_wp2
  go_loopw [3, 8] (fun s i wr => ∃ k : Nat, k ≤ n ∧ i = .int .i64 k ∧ s = .int .i64 (fSum (fs.take k)) ∧ Below w.heap.size w wr) (fun _ i _ => n - (intOf i).toNat)
  case atStart => exact ⟨0, by omega, rfl, rfl, Below.refl _ _⟩
  case round =>
    obtain ⟨k, hk, rfl, rfl, hbel⟩ := hrel
    have hsb := fSum_bd (fs.take k) (fun f hf => HB.out f (List.mem_of_mem_take hf))
    have hsl : (fs.take k).length ≤ n := by rw [List.length_take]; have := HF.out.len; omega
    obtain ⟨s0, s1⟩ := hsb
    have s2 : fSum (fs.take k) ≤ 2097156 * 2000000 := by omega
    clear s1 hsl
    by_cases hlt : k < n
    · have hlt' : (k : Int) < n := by omega
      have hkl : k < fs.length := by rw [HF.out.len]; exact hlt
      obtain ⟨g, o, rfl⟩ := HF.out.some' (by omega)
      obtain ⟨f, hff⟩ : ∃ f, fs[k] = f := ⟨_, rfl⟩
      obtain ⟨c0, c1, c2⟩ := (HF.out.below hbel).at k hkl
      rw [hff] at c0 c1 c2
      have hfb := HB.out f (by rw [← hff]; exact List.getElem_mem hkl)
      have HS : Hid (fSum (fs.take (k + 1)) = fSum (fs.take k) + fLen f) := by
        show fSum (fs.take (k + 1)) = fSum (fs.take k) + fLen f
        rw [List.take_succ_eq_append_getElem hkl, fSum_snoc, hff]
      have l0 : 0 ≤ fLen f := by unfold fLen; omega
      have l1 : fLen f ≤ 2097156 := by unfold fLen; omega
      have hone := fun w => fieldSize_any f w hfb.1 hfb.2
      unfold Fd.val at hone
      have hbA : Below w.heap.size w (wr.alloc (.cells #[.string f.n, .string f.v, .bool f.q] 98)) := hbel.alloc hbel.size _
      clear hff hkl hfb
      go_wp2_with (go_at_call 83; refine (hone _).mono ?_; rintro e w1 ⟨rfl, hb1⟩)
      go_roundw
      case rel => exact ⟨k + 1, by omega, by go_num, by rw [HS.out], hbA.trans (hb1.mono hbA.size)⟩
      case measure => simp [intOf]; omega
    · have hall : fs.take k = fs := List.take_of_length_le (by rw [HF.out.len]; omega)
      rw [hall]
      clear hall
      go_wp2
      go_ret
      exact ⟨rfl, hbel⟩

theorem set3_two {W : World} {B R : Nat} {x y : Value} (a b c : Value) (h : B ≠ R) (h0 : W.cell? ⟨B, 0, none⟩ = some x) (h1 : W.cell? ⟨B, 1, none⟩ = some y) : (((W.setCell ⟨R, 0, none⟩ a).setCell ⟨R, 1, none⟩ b).setCell ⟨R, 2, none⟩ c).cell? ⟨B, 0, none⟩ = some x ∧ (((W.setCell ⟨R, 0, none⟩ a).setCell ⟨R, 1, none⟩ b).setCell ⟨R, 2, none⟩ c).cell? ⟨B, 1, none⟩ = some y := by
  constructor
  · rw [cell_set _ _ _ _ h, cell_set _ _ _ _ h, cell_set _ _ _ _ h]; exact h0
  · rw [cell_set _ _ _ _ h, cell_set _ _ _ _ h, cell_set _ _ _ _ h]; exact h1
theorem set3all_heap {W : World} {B : Nat} {a b c : Value} {t : TypeId} (x y z : Value) (h : W.heap[B]? = some (.cells #[a, b, c] t (0, 0))) : (((W.setCell ⟨B, 0, none⟩ x).setCell ⟨B, 1, none⟩ y).setCell ⟨B, 2, none⟩ z).heap[B]? = some (.cells #[x, y, z] t (0, 0)) := by
  have key : ∀ (W : World) (a b c : Value) (o : Nat) (v : Value), W.heap[B]? = some (.cells #[a, b, c] t (0, 0)) → (W.setCell ⟨B, o, none⟩ v).heap[B]? = some (.cells (#[a, b, c].setIfInBounds o v) t (0, 0)) := by
    intro W a b c o v h
    obtain ⟨hlt, hk⟩ := Array.getElem?_eq_some_iff.1 h
    show (W.heap.modify B _)[B]? = _
    rw [Array.getElem?_eq_getElem (by rw [Array.size_modify]; exact hlt), Array.getElem_modify_self, hk]
    rfl
  exact key _ _ _ _ 2 z (key _ _ _ _ 1 y (key W _ _ _ 0 x h))
end Go.Proofs.Ytdnajdobmlgmiaa

namespace Go.Proofs.Ytdnajdobmlgmiaa
open Go.RowKit
set_option linter.unusedVariables false

theorem tOk_range {fs : List Fd} {max : Int} (h : (decide (0 ≤ max) && decide (max ≤ 64)) = false) : tOk fs max = false := by
  unfold tOk
  rw [h, Bool.false_and, Bool.and_false]

set_option maxRecDepth 100000 in
set_option maxHeartbeats 1000000 in
theorem implTableOk (fs : List Fd) (a : Option Addr) (n cap : Nat) (max : Int) (w : World) (hf : Fs w a n cap fs) (hbd : fsBd fs) (hn : n ≤ 1048576) :
    Calls Try.prog 47 #[.agg #[.slice a n cap, .int .i64 max]] w fun e w' => e = .returned (.bool (tOk fs max)) ∧ Below w.heap.size w w' := by
  have HF : Hid (Fs w a n cap fs) := hf
  have HB : Hid (fsBd fs) := hbd
  have hin := fun w => tableMaxOk_any max w
  clear hf hbd
  cases hr : (decide (0 ≤ max) && decide (max ≤ 64)) with
  | false =>
    rw [tOk_range hr]
    rw [hr] at hin
    clear hr
    go_enter Try.func47, Try.ntmps47
    go_wp2_with (go_at_call 70; refine (hin _).mono ?_; rintro e w1 ⟨rfl, rfl⟩)
    go_ret
    exact ⟨rfl, (Below.refl _ _).alloc (Nat.le_refl _) _⟩
  | true =>
    rw [hr] at hin
    have HR : Hid ((decide (0 ≤ max) && decide (max ≤ 64)) = true) := hr
    clear hr
    go_enter Try.func47, Try.ntmps47
    go_wp2_with (go_at_call 70; refine (hin _).mono ?_; clear hin; rintro e w1 ⟨rfl, rfl⟩)
    go_loopw [12] (fun i wr => ∃ k : Nat, k ≤ n ∧ i = .int .i64 k ∧ (∀ j (hj : j < fs.length), j < k → (fOk fs[j] && !fs[j].q) = true) ∧ Below (w.heap.size + 1) (w.alloc (.cells #[.slice a n cap, .int .i64 max] 24)) wr) (fun i _ => n - (intOf i).toNat)
    case atStart => exact ⟨0, by omega, rfl, by intro j hj h; omega, Below.refl _ _⟩
    case round =>
      obtain ⟨k, hk, rfl, hall, hbel⟩ := hrel
      have HA : Hid (∀ j (hj : j < fs.length), j < k → (fOk fs[j] && !fs[j].q) = true) := hall
      clear hall
      have t0 : wr.cell? ⟨w.heap.size, 0, none⟩ = some (.slice a n cap) := by rw [hbel.cell (p := ⟨w.heap.size, 0, none⟩) (by simp)]; simp
      have t1 : wr.cell? ⟨w.heap.size, 1, none⟩ = some (.int .i64 max) := by rw [hbel.cell (p := ⟨w.heap.size, 1, none⟩) (by simp)]; simp
      have HBW : Hid (Below w.heap.size w wr) := ((Below.refl _ _).alloc (Nat.le_refl _) _).trans (hbel.mono (by omega))
      by_cases hlt : k < n
      · have hlt' : (k : Int) < n := by omega
        have hkl : k < fs.length := by rw [HF.out.len]; exact hlt
        obtain ⟨g, o, rfl⟩ := HF.out.some' (by omega)
        obtain ⟨f, hff⟩ : ∃ f, fs[k] = f := ⟨_, rfl⟩
        obtain ⟨c0, c1, c2⟩ := (HF.out.below HBW.out).at k hkl
        rw [hff] at c0 c1 c2
        have hfb := HB.out f (by rw [← hff]; exact List.getElem_mem hkl)
        have hok := fun w => implFieldOk f w hfb.1 hfb.2
        unfold Fd.val at hok
        have hbA : Below w.heap.size w (wr.alloc (.cells #[.string f.n, .string f.v, .bool f.q] 98)) := HBW.out.alloc HBW.out.size _
        have hbelA : Below (w.heap.size + 1) (w.alloc (.cells #[.slice (some ⟨g, o, none⟩) n cap, .int .i64 max] 24)) (wr.alloc (.cells #[.string f.n, .string f.v, .bool f.q] 98)) := hbel.alloc (by have := hbel.size; simp at this; omega) _
        obtain ⟨q, hq⟩ : ∃ q, f.q = q := ⟨_, rfl⟩
        rw [hq] at c2 hok hbA hbelA
        have HQ : Hid (f.q = q) := hq
        clear hq
        cases q with
        | true =>
          have HV : Hid (tOk fs max = false) := tOk_bad hkl (by rw [hff, HQ.out, Bool.not_true, Bool.and_false])
          clear hff hkl hfb hok
          go_wp2
          go_ret
          exact ⟨ret_bool' HV.out.symm, hbA⟩
        | false =>
          cases hfo : fOk f with
          | false =>
            rw [hfo] at hok
            have HV : Hid (tOk fs max = false) := tOk_bad hkl (by rw [hff, hfo]; rfl)
            clear hff hkl hfb hfo
            go_wp2_with (go_at_call 71; refine (hok _).mono ?_; clear hok; rintro e w1 ⟨rfl, hb1⟩)
            go_ret
            exact ⟨ret_bool' HV.out.symm, hbA.trans (hb1.mono hbA.size)⟩
          | true =>
            rw [hfo] at hok
            have HX : Hid ((fOk fs[k] && !fs[k].q) = true) := by show (fOk fs[k] && !fs[k].q) = true; rw [hff, hfo, HQ.out]; rfl
            clear hff hfb hfo
            go_wp2_with (go_at_call 71; refine (hok _).mono ?_; clear hok; rintro e w1 ⟨rfl, hb1⟩)
            go_roundw
            case rel =>
              refine ⟨k + 1, by omega, by go_num, ?_, hbelA.trans (hb1.mono (by have := hbelA.size; simp at this ⊢; omega))⟩
              intro j hj h
              by_cases e : j = k
              · subst e; exact HX.out
              · exact HA.out j hj (by omega)
            case measure => simp [intOf]; omega
      · have HV : Hid (tOk fs max = decide (fSum fs ≤ max)) := by
          show tOk fs max = decide (fSum fs ≤ max)
          rw [tOk_good (fun j hj => HA.out j hj (by have := HF.out.len; omega)), HR.out, Bool.true_and]
        have hsb := fSum_bd fs HB.out
        rw [HF.out.len] at hsb
        obtain ⟨s0, s1⟩ := hsb
        have hmx : Try.prog.follows .mixedOrders = true := by kernel_rfl
        have HFW := HF.out.below HBW.out
        have hsz := fun (w' : World) (h : Fs w' a n cap fs) => fieldsSize_any fs a n cap w' h HB.out (by omega)
        have hs0 : fSum fs ≤ 9000000000000 := by omega
        have hFd : Fs wr.drew a n cap fs := HFW.below ((Below.refl _ _).drew)
        have hBd : Below w.heap.size w wr.drew := HBW.out.drew
        have t0d : wr.drew.cell? ⟨w.heap.size, 0, none⟩ = some (.slice a n cap) := t0
        have t1d : wr.drew.cell? ⟨w.heap.size, 1, none⟩ = some (.int .i64 max) := t1
        go_wp2
        go_region_held3 (fun w' => w'.cell? ⟨w.heap.size, 0, none⟩ = some (.slice a n cap) ∧ w'.cell? ⟨w.heap.size, 1, none⟩ = some (.int .i64 max) ∧ Fs w' a n cap fs ∧ Below w.heap.size w w') (first | exact ⟨t0d, t1d, hFd, hBd⟩ | exact keep_tab hbN (by assumption) (by assumption) (by assumption) (by assumption)) ((go_at_call 72; refine (hsz _ (by assumption)).mono ?_; rintro e wN ⟨rfl, hbN⟩))
        go_wp2
        go_ret
        exact ⟨ret_bool' (by rw [HV.out]), hBd.trans (hbN.mono hBd.size)⟩

end Go.Proofs.Ytdnajdobmlgmiaa
