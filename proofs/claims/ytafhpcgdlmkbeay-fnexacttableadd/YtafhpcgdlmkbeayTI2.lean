import Derived.Test.YtafhpcgdlmkbeayTI1
namespace Go.Proofs.Ytafhpcgdlmkbeay
open Go.RowKit
set_option linter.unusedVariables false

theorem tOk_range {fs : List Fd} {max : Int} (h : (decide (0 ≤ max) && decide (max ≤ 64)) = false) : tOk fs max = false := by
  unfold tOk
  rw [h, Bool.false_and, Bool.and_false]

set_option maxRecDepth 100000 in
set_option maxHeartbeats 1000000 in
theorem implTableOk (fs : List Fd) (a : Option Addr) (n cap : Nat) (max : Int) (w : World) (hf : Fs w a n cap fs) (hbd : fsBd fs) (hn : n ≤ 1048576) :
    Calls Try.prog 11 #[.agg #[.slice a n cap, .int .i64 max]] w fun e w' => e = .returned (.bool (tOk fs max)) ∧ Below w.heap.size w w' := by
  have HF : Hid (Fs w a n cap fs) := hf
  have HB : Hid (fsBd fs) := hbd
  have hin := fun w => tableMaxOk_any max w
  clear hf hbd
  cases hr : (decide (0 ≤ max) && decide (max ≤ 64)) with
  | false =>
    rw [tOk_range hr]
    rw [hr] at hin
    clear hr
    go_enter Try.func11, Try.ntmps11
    go_wp2_with (go_at_call 31; refine (hin _).mono ?_; rintro e w1 ⟨rfl, rfl⟩)
    go_ret
    exact ⟨rfl, (Below.refl _ _).alloc (Nat.le_refl _) _⟩
  | true =>
    rw [hr] at hin
    have HR : Hid ((decide (0 ≤ max) && decide (max ≤ 64)) = true) := hr
    clear hr
    go_enter Try.func11, Try.ntmps11
    go_wp2_with (go_at_call 31; refine (hin _).mono ?_; clear hin; rintro e w1 ⟨rfl, rfl⟩)
    go_loopw [12] (fun i wr => ∃ k : Nat, k ≤ n ∧ i = .int .i64 k ∧ (∀ j (hj : j < fs.length), j < k → (fOk fs[j] && !fs[j].q) = true) ∧ Below (w.heap.size + 1) (w.alloc (.cells #[.slice a n cap, .int .i64 max] 29)) wr) (fun i _ => n - (intOf i).toNat)
    case atStart => exact ⟨0, by omega, rfl, by intro j hj h; omega, Below.refl _ _⟩
    case round =>
      obtain ⟨k, hk, rfl, hall, hbel⟩ := hrel
      have HA : Hid (∀ j (hj : j < fs.length), j < k → (fOk fs[j] && !fs[j].q) = true) := hall
      clear hall
      have t0 : wr.cell? ⟨w.heap.size, 0, none⟩ = some (.slice a n cap) := by rw [hbel.cell (p := ⟨w.heap.size, 0, none⟩) (by simp)]; simp
      have t1 : wr.cell? ⟨w.heap.size, 1, none⟩ = some (.int .i64 max) := by rw [hbel.cell (p := ⟨w.heap.size, 1, none⟩) (by simp)]; simp
      have HBW : Hid (Below w.heap.size w wr) := ((Below.refl _ _).alloc (Nat.le_refl _) _).trans (hbel.mono (by omega))
      by_cases hlt : k < n
      · have hlt' : (k : Int) < n := by omega
        have hkl : k < fs.length := by rw [HF.out.len]; exact hlt
        obtain ⟨g, o, rfl⟩ := HF.out.some' (by omega)
        obtain ⟨f, hff⟩ : ∃ f, fs[k] = f := ⟨_, rfl⟩
        obtain ⟨c0, c1, c2⟩ := (HF.out.below HBW.out).at k hkl
        rw [hff] at c0 c1 c2
        have hfb := HB.out f (by rw [← hff]; exact List.getElem_mem hkl)
        have hok := fun w => implFieldOk f w hfb.1 hfb.2
        unfold Fd.val at hok
        have hbA : Below w.heap.size w (wr.alloc (.cells #[.string f.n, .string f.v, .bool f.q] 37)) := HBW.out.alloc HBW.out.size _
        have hbelA : Below (w.heap.size + 1) (w.alloc (.cells #[.slice (some ⟨g, o, none⟩) n cap, .int .i64 max] 29)) (wr.alloc (.cells #[.string f.n, .string f.v, .bool f.q] 37)) := hbel.alloc (by have := hbel.size; simp at this; omega) _
        obtain ⟨q, hq⟩ : ∃ q, f.q = q := ⟨_, rfl⟩
        rw [hq] at c2 hok hbA hbelA
        have HQ : Hid (f.q = q) := hq
        clear hq
        cases q with
        | true =>
          have HV : Hid (tOk fs max = false) := tOk_bad hkl (by rw [hff, HQ.out, Bool.not_true, Bool.and_false])
          clear hff hkl hfb hok
          go_wp2
          go_ret
          exact ⟨ret_bool' HV.out.symm, hbA⟩
        | false =>
          cases hfo : fOk f with
          | false =>
            rw [hfo] at hok
            have HV : Hid (tOk fs max = false) := tOk_bad hkl (by rw [hff, hfo]; rfl)
            clear hff hkl hfb hfo
            go_wp2_with (go_at_call 32; refine (hok _).mono ?_; clear hok; rintro e w1 ⟨rfl, hb1⟩)
            go_ret
            exact ⟨ret_bool' HV.out.symm, hbA.trans (hb1.mono hbA.size)⟩
          | true =>
            rw [hfo] at hok
            have HX : Hid ((fOk fs[k] && !fs[k].q) = true) := by show (fOk fs[k] && !fs[k].q) = true; rw [hff, hfo, HQ.out]; rfl
            clear hff hfb hfo
            go_wp2_with (go_at_call 32; refine (hok _).mono ?_; clear hok; rintro e w1 ⟨rfl, hb1⟩)
            go_roundw
            case rel =>
              refine ⟨k + 1, by omega, by go_num, ?_, hbelA.trans (hb1.mono (by have := hbelA.size; simp at this ⊢; omega))⟩
              intro j hj h
              by_cases e : j = k
              · subst e; exact HX.out
              · exact HA.out j hj (by omega)
            case measure => simp [intOf]; omega
      · have HV : Hid (tOk fs max = decide (fSum fs ≤ max)) := by
          show tOk fs max = decide (fSum fs ≤ max)
          rw [tOk_good (fun j hj => HA.out j hj (by have := HF.out.len; omega)), HR.out, Bool.true_and]
        have hsb := fSum_bd fs HB.out
        rw [HF.out.len] at hsb
        obtain ⟨s0, s1⟩ := hsb
        have hmx : Try.prog.follows .mixedOrders = true := by kernel_rfl
        have HFW := HF.out.below HBW.out
        have hsz := fun (w' : World) (h : Fs w' a n cap fs) => fieldsSize_any fs a n cap w' h HB.out (by omega)
        have hs0 : fSum fs ≤ 9000000000000 := by omega
        have hFd : Fs wr.drew a n cap fs := HFW.below ((Below.refl _ _).drew)
        have hBd : Below w.heap.size w wr.drew := HBW.out.drew
        have t0d : wr.drew.cell? ⟨w.heap.size, 0, none⟩ = some (.slice a n cap) := t0
        have t1d : wr.drew.cell? ⟨w.heap.size, 1, none⟩ = some (.int .i64 max) := t1
        go_wp2
        go_region_held3 (fun w' => w'.cell? ⟨w.heap.size, 0, none⟩ = some (.slice a n cap) ∧ w'.cell? ⟨w.heap.size, 1, none⟩ = some (.int .i64 max) ∧ Fs w' a n cap fs ∧ Below w.heap.size w w') (first | exact ⟨t0d, t1d, hFd, hBd⟩ | exact keep_tab hbN (by assumption) (by assumption) (by assumption) (by assumption)) ((go_at_call 33; refine (hsz _ (by assumption)).mono ?_; rintro e wN ⟨rfl, hbN⟩))
        go_wp2
        go_ret
        exact ⟨ret_bool' (by rw [HV.out]), hBd.trans (hbN.mono hBd.size)⟩

end Go.Proofs.Ytafhpcgdlmkbeay
