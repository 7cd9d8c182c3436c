import Derived.Test.YtdnajdobmlgmiaaHR4
import Derived.Test.YtdnajdobmlgmiaaBL
import Derived.Test.YtdnajdobmlgmiaaBB
import Derived.Test.YtdnajdobmlgmiaaBI
import Derived.Test.YtdnajdobmlgmiaaNumR
import Derived.Deep.RegionHeld3
namespace Go.Proofs.Ytdnajdobmlgmiaa
open Go.RowKit
set_option linter.unusedVariables false

set_option maxRecDepth 100000 in
set_option maxHeartbeats 1000000 in
theorem implHeadOk (fs : List Fd) (a : Option Addr) (n cap : Nat) (w : World) (hf : Fs w a n cap fs) (hbd : fsBd fs) (hn : n ≤ 1048576) :
    Calls Try.prog 80 #[.slice a n cap] w fun e w' => e = .returned (.bool (hOk fs)) ∧ Below w.heap.size w w' := by
  have HF : Hid (Fs w a n cap fs) := hf
  have HB : Hid (fsBd fs) := hbd
  have hlen := hf.len
  clear hf hbd
  by_cases h6 : 6 < n
  · have h6' : (6 : Int) < n := by omega
    have HR : Hid (hOk fs = false) := by
      show hOk fs = false
      unfold hOk
      rw [decide_eq_false (by omega), Bool.and_false]
    go_enter Try.func80, Try.ntmps80
    go_wp2
    go_ret
    exact ⟨ret_bool' HR.out.symm, Below.refl _ _⟩
  · have h6' : ¬ (6 : Int) < n := by omega
    go_enter Try.func80, Try.ntmps80
    go_wp2
    go_loopw [10] (fun i wr => ∃ k : Nat, k ≤ n ∧ i = .int .i64 k ∧ (∀ j (hj : j < fs.length), j < k → fOk fs[j] = true) ∧ Below w.heap.size w wr) (fun i _ => n - (intOf i).toNat)
    case atStart => exact ⟨0, by omega, rfl, (fun j hj h => absurd h (by omega)), Below.refl _ _⟩
    case round =>
      obtain ⟨k, hk, rfl, hall, hbel⟩ := hrel
      have HAL : Hid (∀ j (hj : j < fs.length), j < k → fOk fs[j] = true) := hall
      clear hall
      by_cases hlt : k < n
      · have hlt' : (k : Int) < n := by omega
        have hk0 : (0 : Int) ≤ k := by omega
        have hkl : k < fs.length := by omega
        obtain ⟨g, o, rfl⟩ := HF.out.some' (by omega)
        obtain ⟨c0, c1, c2⟩ := (HF.out.below hbel).at k hkl
        have hfb := HB.out fs[k] (List.getElem_mem hkl)
        have hok := fun w => implFieldOk fs[k] w hfb.1 hfb.2
        cases hfk : fOk fs[k] with
        | false =>
          rw [hfk] at hok
          have HR : Hid (hOk fs = false) := hOk_bad hkl hfk
          obtain ⟨f, hff⟩ : ∃ f, fs[k] = f := ⟨_, rfl⟩
          rw [hff] at c0 c1 c2 hok
          unfold Fd.val at hok
          have hbA := hbel.alloc hbel.size (.cells #[.string f.n, .string f.v, .bool f.q] 98)
          clear hff hfk hfb
          go_wp2_with (go_at_call 71; refine (hok _).mono ?_; clear hok; rintro e w1 ⟨rfl, hb1⟩)
          go_ret
          exact ⟨ret_bool' HR.out.symm, bt' hbA hb1⟩
        | true =>
          rw [hfk] at hok
          have HK : Hid (fOk fs[k] = true) := hfk
          obtain ⟨f, hff⟩ : ∃ f, fs[k] = f := ⟨_, rfl⟩
          rw [hff] at c0 c1 c2 hok
          unfold Fd.val at hok
          have hbA := hbel.alloc hbel.size (.cells #[.string f.n, .string f.v, .bool f.q] 98)
          clear hff hfk hfb
          go_wp2_with (go_at_call 71; refine (hok _).mono ?_; clear hok; rintro e w1 ⟨rfl, hb1⟩)
          go_roundw
          case rel =>
            refine ⟨k + 1, by omega, by go_num, ?_, bt' hbA hb1⟩
            intro j hj hjk
            by_cases e : j = k
            · subst e; exact HK.out
            · exact HAL.out j hj (by omega)
          case measure => simp [intOf]; omega
      · have HR : Hid (hOk fs = true) := by
          show hOk fs = true
          rw [hOk_good (fun j hj => HAL.out j hj (by omega)), decide_eq_true (by omega)]
        go_wp2
        go_ret
        exact ⟨ret_bool' HR.out.symm, hbel⟩

theorem lim_self {fs : List Fd} {max : Int} (h : tOk fs max = true) : limV fs max max = (fs, max) := by
  obtain ⟨_, h2, h3, h4⟩ := tOk_parts h
  rw [limV_ok h h2 h3, fitL_all h4]
/-- The words of a field in memory. -/
def wdVal (p : Int) (n v : ByteArray) : Value := .agg #[.int .i64 p, .string n, .string v]
def wrW (p : Int) (n v : ByteArray) (bits : Int) : ByteArray := (if p = 0 then numS 0 bits 1 ++ wrV n else numS p bits 1) ++ wrV v
end Go.Proofs.Ytdnajdobmlgmiaa

namespace Go.Proofs.Ytdnajdobmlgmiaa
open Go.RowKit
set_option linter.unusedVariables false

end Go.Proofs.Ytdnajdobmlgmiaa
