import Derived.Test.YtbhoafiolalgaabHI7
namespace Go.Proofs.Ytbhoafiolalgaab
open Go.RowKit
set_option linter.unusedVariables false

theorem find_skip {fs : List Fd} {nm : ByteArray} {k : Nat} (h : k < fs.length) (hne : ¬ fs[k].n = nm) (hp : (fs.take k).find? (fun f => f.n.toList == nm.toList) = none) : (fs.take (k + 1)).find? (fun f => f.n.toList == nm.toList) = none := by
  rw [List.take_add_one, List.getElem?_eq_getElem h, Option.toList_some, List.find?_append, hp]
  have : (fs[k].n.toList == nm.toList) = false := by
    cases e : (fs[k].n.toList == nm.toList) with
    | false => rfl
    | true => exact absurd (eqB_iff.1 e) hne
  simp [this]
theorem find_hit {fs : List Fd} {nm : ByteArray} {k : Nat} (h : k < fs.length) (he : fs[k].n = nm) (hp : (fs.take k).find? (fun f => f.n.toList == nm.toList) = none) : fs.find? (fun f => f.n.toList == nm.toList) = some fs[k] := by
  have e : fs = fs.take k ++ fs[k] :: fs.drop (k + 1) := by rw [List.getElem_cons_drop, List.take_append_drop]
  have h2 : (fs[k].n.toList == nm.toList) = true := eqB_iff.2 he
  conv => lhs; rw [e]
  rw [List.find?_append, hp, List.find?_cons]
  simp only [h2]
  rfl
theorem getH_bad {fs : List Fd} {nm : ByteArray} (h : hOk fs = false) : getH fs nm = (⟨#[]⟩, false) := by unfold getH; rw [h]; rfl
theorem getH_hit {fs : List Fd} {nm : ByteArray} {f : Fd} (h : hOk fs = true) (e : fs.find? (fun f => f.n.toList == nm.toList) = some f) : getH fs nm = (f.v, true) := by unfold getH; rw [h, e]; rfl
theorem getH_none {fs : List Fd} {nm : ByteArray} (h : hOk fs = true) (e : fs.find? (fun f => f.n.toList == nm.toList) = none) : getH fs nm = (⟨#[]⟩, false) := by unfold getH; rw [h, e]; rfl

def fndP (fs : List Fd) (nm : ByteArray) (k : Nat) : Prop := (fs.take k).find? (fun f => f.n.toList == nm.toList) = none
set_option maxRecDepth 100000 in
set_option maxHeartbeats 1000000 in
theorem specHeadGet (fs : List Fd) (nm : ByteArray) (a : Option Addr) (n cap : Nat) (w : World) (hf : Fs w a n cap fs) (hbd : fsBd fs) (hn : n ≤ 1048576) :
    Calls Try.prog 28 #[.slice a n cap, .string nm] w fun e w' => e = .returned (.tuple #[.string (getH fs nm).1, .bool (getH fs nm).2]) ∧ Below w.heap.size w w' := by
  have HF : Hid (Fs w a n cap fs) := hf
  have hlen := hf.len
  have hhd := specHeadOk fs a n cap w hf hbd hn
  clear hf hbd
  cases hh : hOk fs with
  | false =>
    rw [getH_bad hh]
    rw [hh] at hhd
    go_enter Try.func28, Try.ntmps28
    go_wp2_with (go_at_call 15; refine hhd.mono ?_; clear hhd; rintro e w1 ⟨rfl, hb1⟩)
    go_ret2
    exact ⟨rfl, hb1⟩
  | true =>
    have HK : Hid (hOk fs = true) := hh
    rw [hh] at hhd
    clear hh
    go_enter Try.func28, Try.ntmps28
    go_wp2_with (go_at_call 15; refine hhd.mono ?_; clear hhd; rintro e w1 ⟨rfl, hb1⟩)
    have HF1 : Hid (Fs w1 a n cap fs) := HF.out.below hb1
    clear HF
    go_loopw [6] (fun iv wr => ∃ k : Nat, k ≤ n ∧ iv = .int .i64 k ∧ fndP fs nm k ∧ wr = w1) (fun iv _ => n - (intOf iv).toNat)
    case atStart => exact ⟨0, Nat.zero_le _, rfl, rfl, rfl⟩
    case round =>
      obtain ⟨k, hk, rfl, hp, rfl⟩ := hrel
      by_cases hkn : k < n
      · have hkn' : (k : Int) < n := by omega
        have hk0 : (0 : Int) ≤ k := by omega
        have hkl : k < fs.length := by omega
        obtain ⟨g, o, rfl⟩ := HF1.out.some' (by omega)
        obtain ⟨c0, c1, c2⟩ := HF1.out.at k hkl
        obtain ⟨f, hff⟩ : ∃ f, fs[k] = f := ⟨_, rfl⟩
        rw [hff] at c0 c1 c2
        cases he : (f.n.toList == nm.toList) with
        | true =>
          have HG : Hid (getH fs nm = (fs[k].v, true)) := getH_hit HK.out (find_hit hkl (by rw [hff]; exact eqB_iff.1 he) hp)
          have he' := eqB_iff.1 he
          subst he'
          clear he hp
          go_wp2
          go_ret2
          exact ⟨by rw [HG.out, hff]; rfl, hb1⟩
        | false =>
          have hne : ¬ f.n = nm := fun e => by rw [eqB_iff.2 e] at he; cases he
          have hp' : fndP fs nm (k + 1) := find_skip hkl (by rw [hff]; exact hne) hp
          clear hp hff
          go_wp2
          go_roundw
          case rel => exact ⟨k + 1, by omega, by go_num, hp', trivial⟩
          case measure => simp [intOf]; omega
      · have hkn' : ¬ (k : Int) < n := by omega
        have HG : Hid (getH fs nm = (⟨#[]⟩, false)) := getH_none HK.out (by unfold fndP at hp; rwa [List.take_of_length_le (by omega)] at hp)
        clear hp
        go_wp2
        go_ret2
        exact ⟨by rw [HG.out]; rfl, hb1⟩

set_option maxRecDepth 100000 in
set_option maxHeartbeats 1000000 in
theorem implHeadGet (fs : List Fd) (nm : ByteArray) (a : Option Addr) (n cap : Nat) (w : World) (hf : Fs w a n cap fs) (hbd : fsBd fs) (hn : n ≤ 1048576) :
    Calls Try.prog 29 #[.slice a n cap, .string nm] w fun e w' => e = .returned (.tuple #[.string (getH fs nm).1, .bool (getH fs nm).2]) ∧ Below w.heap.size w w' := by
  have HF : Hid (Fs w a n cap fs) := hf
  have hlen := hf.len
  have hhd := implHeadOk fs a n cap w hf hbd hn
  clear hf hbd
  cases hh : hOk fs with
  | false =>
    rw [getH_bad hh]
    rw [hh] at hhd
    go_enter Try.func29, Try.ntmps29
    go_wp2_with (go_at_call 17; refine hhd.mono ?_; clear hhd; rintro e w1 ⟨rfl, hb1⟩)
    go_ret2
    exact ⟨rfl, hb1⟩
  | true =>
    have HK : Hid (hOk fs = true) := hh
    rw [hh] at hhd
    clear hh
    go_enter Try.func29, Try.ntmps29
    go_wp2_with (go_at_call 17; refine hhd.mono ?_; clear hhd; rintro e w1 ⟨rfl, hb1⟩)
    have HF1 : Hid (Fs w1 a n cap fs) := HF.out.below hb1
    clear HF
    go_loopw [13] (fun iv wr => ∃ k : Nat, k ≤ n ∧ iv = .int .i64 k ∧ fndP fs nm k ∧ Below w.heap.size w wr ∧ Below w1.heap.size w1 wr) (fun iv _ => n - (intOf iv).toNat)
    case atStart => exact ⟨0, Nat.zero_le _, rfl, rfl, hb1, Below.refl _ _⟩
    case round =>
      clear hb1
      obtain ⟨k, hk, rfl, hp, hbel, hbel1⟩ := hrel
      by_cases hkn : k < n
      · have hkn' : (k : Int) < n := by omega
        have hk0 : (0 : Int) ≤ k := by omega
        have hkl : k < fs.length := by omega
        obtain ⟨g, o, rfl⟩ := HF1.out.some' (by omega)
        obtain ⟨c0, c1, c2⟩ := (HF1.out.below hbel1).at k hkl
        have hfo := (hOk_parts HK.out).1 fs[k] (List.getElem_mem hkl)
        obtain ⟨f, hff⟩ : ∃ f, fs[k] = f := ⟨_, rfl⟩
        rw [hff] at c0 c1 c2 hfo
        have hvs := fOk_size hfo
        have hcl := fun w => clone_any f.v w (by omega)
        have hba : Below w.heap.size w (wr.alloc (.cells #[.string f.n, .string f.v, .bool f.q] 65)) := hbel.alloc hbel.size _
        have hba1 : Below w1.heap.size w1 (wr.alloc (.cells #[.string f.n, .string f.v, .bool f.q] 65)) := hbel1.alloc hbel1.size _
        have hR : (wr.alloc (.cells #[.string f.n, .string f.v, .bool f.q] 65)).heap[wr.heap.size]? = some (.cells #[.string f.n, .string f.v, .bool f.q] 65 (0, 0)) := heap_alloc_last wr _
        obtain ⟨r0, r1, r2⟩ := row3c hR
        clear hR hbel hbel1 hvs hfo
        cases he : (f.n.toList == nm.toList) with
        | true =>
          have HG : Hid (getH fs nm = (fs[k].v, true)) := getH_hit HK.out (find_hit hkl (by rw [hff]; exact eqB_iff.1 he) hp)
          have he' := eqB_iff.1 he
          subst he'
          clear he hp
          go_wp2_with (go_at_call 52; refine (hcl _).mono ?_; clear hcl; rintro e w2 ⟨rfl, hb2⟩)
          go_ret2
          exact ⟨by rw [HG.out, hff]; rfl, bt' hba hb2⟩
        | false =>
          have hne : ¬ f.n = nm := fun e => by rw [eqB_iff.2 e] at he; cases he
          have hp' : fndP fs nm (k + 1) := find_skip hkl (by rw [hff]; exact hne) hp
          clear hp hff hcl
          go_wp2
          go_roundw
          case rel => exact ⟨k + 1, by omega, by go_num, hp', hba, hba1⟩
          case measure => simp [intOf]; omega
      · have hkn' : ¬ (k : Int) < n := by omega
        have HG : Hid (getH fs nm = (⟨#[]⟩, false)) := getH_none HK.out (by unfold fndP at hp; rwa [List.take_of_length_le (by omega)] at hp)
        clear hp
        go_wp2
        go_ret2
        exact ⟨by rw [HG.out]; rfl, hbel⟩
end Go.Proofs.Ytbhoafiolalgaab
