import Derived.Test.YtghgcobnmmommaaHR4
import Derived.Test.YtghgcobnmmommaaBM
import Derived.Test.YtghgcobnmmommaaBI
import Derived.Test.YtghgcobnmmommaaNumR
import Derived.Deep.RegionHeld3
namespace Go.Proofs.Ytghgcobnmmommaa
open Go.RowKit
set_option linter.unusedVariables false

set_option maxRecDepth 100000 in
set_option maxHeartbeats 1000000 in
theorem implHeadOk (fs : List Fd) (a : Option Addr) (n cap : Nat) (w : World) (hf : Fs w a n cap fs) (hbd : fsBd fs) (hn : n ≤ 1048576) :
    Calls Try.prog 100 #[.slice a n cap] w fun e w' => e = .returned (.bool (hOk fs)) ∧ Below w.heap.size w w' := by
  have HF : Hid (Fs w a n cap fs) := hf
  have HB : Hid (fsBd fs) := hbd
  have hlen := hf.len
  clear hf hbd
  by_cases h6 : 6 < n
  · have h6' : (6 : Int) < n := by omega
    have HR : Hid (hOk fs = false) := by
      show hOk fs = false
      unfold hOk
      rw [decide_eq_false (by omega), Bool.and_false]
    go_enter Try.func100, Try.ntmps100
    go_wp2
    go_ret
    exact ⟨ret_bool' HR.out.symm, Below.refl _ _⟩
  · have h6' : ¬ (6 : Int) < n := by omega
    go_enter Try.func100, Try.ntmps100
    go_wp2
    go_loopw [10] (fun i wr => ∃ k : Nat, k ≤ n ∧ i = .int .i64 k ∧ (∀ j (hj : j < fs.length), j < k → fOk fs[j] = true) ∧ Below w.heap.size w wr) (fun i _ => n - (intOf i).toNat)
    case atStart => exact ⟨0, by omega, rfl, (fun j hj h => absurd h (by omega)), Below.refl _ _⟩
    case round =>
      obtain ⟨k, hk, rfl, hall, hbel⟩ := hrel
      have HAL : Hid (∀ j (hj : j < fs.length), j < k → fOk fs[j] = true) := hall
      clear hall
      by_cases hlt : k < n
      · have hlt' : (k : Int) < n := by omega
        have hk0 : (0 : Int) ≤ k := by omega
        have hkl : k < fs.length := by omega
        obtain ⟨g, o, rfl⟩ := HF.out.some' (by omega)
        obtain ⟨c0, c1, c2⟩ := (HF.out.below hbel).at k hkl
        have hfb := HB.out fs[k] (List.getElem_mem hkl)
        have hok := fun w => implFieldOk fs[k] w hfb.1 hfb.2
        cases hfk : fOk fs[k] with
        | false =>
          rw [hfk] at hok
          have HR : Hid (hOk fs = false) := hOk_bad hkl hfk
          obtain ⟨f, hff⟩ : ∃ f, fs[k] = f := ⟨_, rfl⟩
          rw [hff] at c0 c1 c2 hok
          unfold Fd.val at hok
          have hbA := hbel.alloc hbel.size (.cells #[.string f.n, .string f.v, .bool f.q] 107)
          clear hff hfk hfb
          go_wp2_with (go_at_call 70; refine (hok _).mono ?_; clear hok; rintro e w1 ⟨rfl, hb1⟩)
          go_ret
          exact ⟨ret_bool' HR.out.symm, bt' hbA hb1⟩
        | true =>
          rw [hfk] at hok
          have HK : Hid (fOk fs[k] = true) := hfk
          obtain ⟨f, hff⟩ : ∃ f, fs[k] = f := ⟨_, rfl⟩
          rw [hff] at c0 c1 c2 hok
          unfold Fd.val at hok
          have hbA := hbel.alloc hbel.size (.cells #[.string f.n, .string f.v, .bool f.q] 107)
          clear hff hfk hfb
          go_wp2_with (go_at_call 70; refine (hok _).mono ?_; clear hok; rintro e w1 ⟨rfl, hb1⟩)
          go_roundw
          case rel =>
            refine ⟨k + 1, by omega, by go_num, ?_, bt' hbA hb1⟩
            intro j hj hjk
            by_cases e : j = k
            · subst e; exact HK.out
            · exact HAL.out j hj (by omega)
          case measure => simp [intOf]; omega
      · have HR : Hid (hOk fs = true) := by
          show hOk fs = true
          rw [hOk_good (fun j hj => HAL.out j hj (by omega)), decide_eq_true (by omega)]
        go_wp2
        go_ret
        exact ⟨ret_bool' HR.out.symm, hbel⟩

theorem lim_self {fs : List Fd} {max : Int} (h : tOk fs max = true) : limV fs max max = (fs, max) := by
  obtain ⟨_, h2, h3, h4⟩ := tOk_parts h
  rw [limV_ok h h2 h3, fitL_all h4]
set_option maxRecDepth 100000 in
set_option maxHeartbeats 1000000 in
theorem copy_any (fs : List Fd) (a : Option Addr) (n cap : Nat) (max : Int) (w : World) (hf : Fs w a n cap fs) (ht : tOk fs max = true) :
    Calls Try.prog 56 #[.agg #[.slice a n cap, .int .i64 max]] w (TabAns w (fs, max)) := by
  have hl := fun (w' : World) (h : Fs w' a n cap fs) => implTableLimit fs a n cap max max w' h (bd_ok ht) (by have := tOk_len ht; have := hf.len; omega)
  rw [lim_self ht] at hl
  unfold TabAns at hl ⊢
  dsimp only at hl ⊢
  have hb2 : Below w.heap.size w ((w.alloc (.cells #[.slice a n cap, .int .i64 max] 26)).alloc (.cells #[.slice none 0 0, .int .i64 0] 26)) := ((Below.refl _ _).alloc (Nat.le_refl _) _).alloc (by simp) _
  have hR : Hid (((w.alloc (.cells #[.slice a n cap, .int .i64 max] 26)).alloc (.cells #[.slice none 0 0, .int .i64 0] 26)).heap[w.heap.size + 1]? = some (.cells #[.slice none 0 0, .int .i64 0] 26 (0, 0))) := by
    have h := heap_alloc_last (w.alloc (.cells #[.slice a n cap, .int .i64 max] 26)) (.cells #[.slice none 0 0, .int .i64 0] 26)
    rw [World.size_alloc] at h
    exact h
  have HF : Hid (Fs w a n cap fs) := hf
  clear hf ht
  go_enter Try.func56, Try.ntmps56
  go_wp2_with (go_at_call 91; refine (hl _ (HF.out.below hb2)).mono ?_; clear hl; rintro e w1 ⟨v1, rfl, hown1, hb1⟩; obtain ⟨a1, c1, rfl⟩ := own_formT hown1; have hR1 := blkH hb1 hR.out; obtain ⟨r0, r1⟩ := row2c hR1; have f0 := frz 0 hR1; have f1 := frz 1 hR1)
  have hne := not_rowT hR1 (by decide) hown1
  have hbw := bt' hb2 hb1
  exact bodyPost_ret (results_cell_row rfl _ _ (w.heap.size + 1) 26 #[.slice a1 fs.length c1, .int .i64 max] (0, 0) _ rfl (set2_heap _ _ hR1) Try.underlying26 rfl infoT2) rfl ⟨_, rfl, own_baseT (own_setT (own_setT hown1 ⟨w.heap.size + 1, 0, none⟩ _ hne) ⟨w.heap.size + 1, 1, none⟩ _ hne) hb2.size, (hbw.setCell (p := ⟨w.heap.size + 1, 0, none⟩) (by show w.heap.size ≤ w.heap.size + 1; omega) _).setCell (p := ⟨w.heap.size + 1, 1, none⟩) (by show w.heap.size ≤ w.heap.size + 1; omega) _⟩

/-- The words of a field in memory. -/
def wdVal (p : Int) (n v : ByteArray) : Value := .agg #[.int .i64 p, .string n, .string v]
def wrW (p : Int) (n v : ByteArray) (bits : Int) : ByteArray := (if p = 0 then numS 0 bits 1 ++ wrV n else numS p bits 1) ++ wrV v
set_option maxRecDepth 100000 in
set_option maxHeartbeats 1000000 in
theorem writeIn_any (p : Int) (nm v : ByteArray) (bits : Int) (w : World) (hn : nOk p bits 1) (h1 : nm.size ≤ 100) (h2 : v.size ≤ 100) :
    Calls Try.prog 153 #[wdVal p nm v, .int .i64 bits] w fun e w' => e = .returned (.string (wrW p nm v bits)) ∧ Below w.heap.size w w' := by
  have hnw := fun w => numWrite_ok p bits 1 w hn
  have hw1 := fun w => implWrite nm w (by unfold maxLen; omega)
  have hw2 := fun w => implWrite v w (by unfold maxLen; omega)
  have z1 := wrV_size nm
  have z2 := wrV_size v
  have z3 := numS_le p bits 1
  have hb0 : Below w.heap.size w (w.alloc (.cells #[.int .i64 p, .string nm, .string v] 171)) := (Below.refl _ _).alloc (Nat.le_refl _) _
  have hB := heap_alloc_last w (.cells #[.int .i64 p, .string nm, .string v] 171)
  have HB : Hid _ := hB
  clear hB
  unfold wrW wdVal
  by_cases hp : p = 0
  · rw [if_pos hp]
    subst hp
    obtain ⟨s1, hs1⟩ : ∃ x, numS 0 bits 1 = x := ⟨_, rfl⟩
    obtain ⟨s2, hs2⟩ : ∃ x, wrV nm = x := ⟨_, rfl⟩
    obtain ⟨s3, hs3⟩ : ∃ x, wrV v = x := ⟨_, rfl⟩
    rw [hs1] at hnw z3
    rw [hs2] at hw1 z1
    rw [hs3] at hw2 z2
    rw [hs1, hs2, hs3]
    clear hs1 hs2 hs3 hn
    have k1 : ¬ 9223372036854775807 < s1.size + s2.size := by omega
    have k1' : s1.size + s2.size ≤ 9223372036854775807 := by omega
    have k2 : ¬ 9223372036854775807 < (s1 ++ s2).size + s3.size := by rw [ByteArray.size_append]; omega
    have k2' : (s1 ++ s2).size + s3.size ≤ 9223372036854775807 := by rw [ByteArray.size_append]; omega
    go_enter Try.func153, Try.ntmps153
    go_wp2_with (first | (go_at_call 155; refine (hnw _).mono ?_; clear hnw; rintro e w1 ⟨rfl, hb1⟩; have hB1 := blkH hb1 HB.out; obtain ⟨c0, c1, c2⟩ := row3c hB1) | (go_at_call 156; refine (hw1 _).mono ?_; clear hw1; rintro e w2 ⟨rfl, hb2⟩; have hB2 := blkH hb2 hB1; obtain ⟨d0, d1, d2⟩ := row3c hB2) | (go_at_call 156; refine (hw2 _).mono ?_; clear hw2; rintro e w3 ⟨rfl, hb3⟩))
    go_ret
    exact ⟨rfl, bt' (bt' (bt' hb0 hb1) hb2) hb3⟩
  · rw [if_neg hp]
    obtain ⟨s1, hs1⟩ : ∃ x, numS p bits 1 = x := ⟨_, rfl⟩
    obtain ⟨s3, hs3⟩ : ∃ x, wrV v = x := ⟨_, rfl⟩
    rw [hs1] at hnw z3
    rw [hs3] at hw2 z2
    rw [hs1, hs3]
    clear hs1 hs3 hw1 hn
    have k1 : ¬ 9223372036854775807 < s1.size + s3.size := by omega
    have k1' : s1.size + s3.size ≤ 9223372036854775807 := by omega
    go_enter Try.func153, Try.ntmps153
    go_wp2_with (first | (go_at_call 155; refine (hnw _).mono ?_; clear hnw; rintro e w1 ⟨rfl, hb1⟩; have hB1 := blkH hb1 HB.out; obtain ⟨c0, c1, c2⟩ := row3c hB1) | (go_at_call 156; refine (hw2 _).mono ?_; clear hw2; rintro e w3 ⟨rfl, hb3⟩))
    go_ret
    exact ⟨rfl, bt' (bt' hb0 hb1) hb3⟩
end Go.Proofs.Ytghgcobnmmommaa

namespace Go.Proofs.Ytghgcobnmmommaa
open Go.RowKit
set_option linter.unusedVariables false

/-- A form in memory. -/
def fmVal (m : Fm) : Value :=
  if m.k = 0 then .iface 175 (.agg #[.int .i64 m.w.p])
  else if m.k = 1 then .iface 176 (.agg #[.int .i64 m.w.p, .string (strOfNums m.w.n), .string (strOfNums m.w.v)])
  else .iface 173 (.agg #[.int .i64 m.w.p, .string (strOfNums m.w.n), .string (strOfNums m.w.v)])
set_option maxRecDepth 100000 in
set_option maxHeartbeats 1000000 in
theorem wrFound (p : Int) (w : World) (hn : nOk p 7 1) :
    Calls Try.prog 165 #[.agg #[.int .i64 p]] w fun e w' => e = .returned (.string (numS p 7 1)) ∧ Below w.heap.size w w' := by
  have hnw := fun w => numWrite_ok p 7 1 w hn
  go_enter Try.func165, Try.ntmps165
  go_wp2_with (go_at_call 155; refine (hnw _).mono ?_; clear hnw; rintro e w1 ⟨rfl, hb1⟩)
  go_ret
  exact ⟨rfl, bt' ((Below.refl _ _).alloc (Nat.le_refl _) _) hb1⟩
set_option maxRecDepth 100000 in
set_option maxHeartbeats 1000000 in
theorem wrAdded (p : Int) (n v : ByteArray) (w : World) (hn : nOk p 6 1) (h1 : n.size ≤ 100) (h2 : v.size ≤ 100) :
    Calls Try.prog 166 #[.agg #[.int .i64 p, .string n, .string v]] w fun e w' => e = .returned (.string (wrW p n v 6)) ∧ Below w.heap.size w w' := by
  have hnw := fun w => writeIn_any p n v 6 w hn h1 h2
  unfold wdVal at hnw
  go_enter Try.func166, Try.ntmps166
  go_wp2_with (go_at_call 153; refine (hnw _).mono ?_; clear hnw; rintro e w1 ⟨rfl, hb1⟩)
  go_ret
  exact ⟨rfl, bt' ((Below.refl _ _).alloc (Nat.le_refl _) _) hb1⟩
set_option maxRecDepth 100000 in
set_option maxHeartbeats 1000000 in
theorem wrNever (p : Int) (n v : ByteArray) (w : World) (hn : nOk p 4 1) (h1 : n.size ≤ 100) (h2 : v.size ≤ 100) :
    Calls Try.prog 154 #[.agg #[.int .i64 p, .string n, .string v]] w fun e w' => e = .returned (.string (wrW p n v 4)) ∧ Below w.heap.size w w' := by
  have hnw := fun w => writeIn_any p n v 4 w hn h1 h2
  unfold wdVal at hnw
  go_enter Try.func154, Try.ntmps154
  go_wp2_with (go_at_call 153; refine (hnw _).mono ?_; clear hnw; rintro e w1 ⟨rfl, hb1⟩)
  go_ret
  exact ⟨rfl, bt' ((Below.refl _ _).alloc (Nat.le_refl _) _) hb1⟩
/-- The form in which a field is written; the name is there even where a place tells it. -/
def formOf (fs : List Fd) (f : Fd) : Value :=
  if f.q then .iface 173 (.agg #[.int .i64 (findV fs f).1, .string f.n, .string f.v])
  else if (findV fs f).2 then .iface 175 (.agg #[.int .i64 (findV fs f).1])
  else .iface 176 (.agg #[.int .i64 (findV fs f).1, .string f.n, .string f.v])
set_option maxRecDepth 100000 in
set_option maxHeartbeats 1000000 in
theorem formOf_any (fs : List Fd) (f : Fd) (a : Option Addr) (n cap : Nat) (max : Int) (w : World) (hf : Fs w a n cap fs) (ht : tOk fs max = true) (hfo : fOk f = true) :
    Calls Try.prog 112 #[.agg #[.slice a n cap, .int .i64 max], f.val] w fun e w' => e = .returned (formOf fs f) ∧ Below w.heap.size w w' := by
  have hfs := fOk_size hfo
  have hfind := fun (w' : World) (h : Fs w' a n cap fs) => implTableFind fs a n cap max f w' h (bd_ok ht) (by have := tOk_len ht; have := hf.len; omega) (by omega) (by omega)
  have hv : tabFind fs max f = findV fs f := by unfold tabFind; rw [ht, hfo]; rfl
  rw [hv] at hfind
  clear hv
  obtain ⟨⟨p, b⟩, hfd⟩ : ∃ r, findV fs f = r := ⟨_, rfl⟩
  unfold formOf
  rw [hfd] at hfind ⊢
  dsimp only at hfind ⊢
  obtain ⟨fn, fv, fq⟩ := f
  unfold Fd.val at hfind ⊢
  dsimp only at *
  have hb2 : Below w.heap.size w ((w.alloc (.cells #[.slice a n cap, .int .i64 max] 26)).alloc (.cells #[.string fn, .string fv, .bool fq] 107)) := ((Below.refl _ _).alloc (Nat.le_refl _) _).alloc (by simp) _
  have hF2 : Hid (((w.alloc (.cells #[.slice a n cap, .int .i64 max] 26)).alloc (.cells #[.string fn, .string fv, .bool fq] 107)).heap[w.heap.size + 1]? = some (.cells #[.string fn, .string fv, .bool fq] 107 (0, 0))) := by
    have h := heap_alloc_last (w.alloc (.cells #[.slice a n cap, .int .i64 max] 26)) (.cells #[.string fn, .string fv, .bool fq] 107)
    rw [World.size_alloc] at h
    exact h
  have HF : Hid (Fs w a n cap fs) := hf
  clear hf ht hfo hfd
  cases fq with
  | true =>
    rw [if_pos rfl]
    go_enter Try.func112, Try.ntmps112
    go_wp2_with (go_at_call 127; refine (hfind _ (HF.out.below hb2)).mono ?_; clear hfind; rintro e w1 ⟨rfl, hb1⟩; obtain ⟨c0, c1, c2⟩ := row3c (blkH hb1 hF2.out); obtain ⟨d0, d1, d2⟩ := row3c (blkT (blkH hb1 hF2.out) (.cells #[.int .i64 p, .string fn, .string fv] 171)))
    have hbw := bt' hb2 hb1
    have hbx := hbw.alloc hbw.size (.cells #[.int .i64 p, .string fn, .string fv] 171)
    go_ret
    exact ⟨rfl, hbx⟩
  | false =>
    rw [if_neg (by decide)]
    cases b with
    | true =>
      rw [if_pos rfl]
      go_enter Try.func112, Try.ntmps112
      go_wp2_with (go_at_call 127; refine (hfind _ (HF.out.below hb2)).mono ?_; clear hfind; rintro e w1 ⟨rfl, hb1⟩; obtain ⟨c0, c1, c2⟩ := row3c (blkH hb1 hF2.out); obtain ⟨d0, d1, d2⟩ := row3c (blkT (blkH hb1 hF2.out) (.cells #[.int .i64 p, .string fn, .string fv] 171)))
      have hbw := bt' hb2 hb1
      have hbx := hbw.alloc hbw.size (.cells #[.int .i64 p, .string fn, .string fv] 171)
      go_ret
      exact ⟨rfl, hbx⟩
    | false =>
      rw [if_neg (by decide)]
      go_enter Try.func112, Try.ntmps112
      go_wp2_with (go_at_call 127; refine (hfind _ (HF.out.below hb2)).mono ?_; clear hfind; rintro e w1 ⟨rfl, hb1⟩; obtain ⟨c0, c1, c2⟩ := row3c (blkH hb1 hF2.out); obtain ⟨d0, d1, d2⟩ := row3c (blkT (blkH hb1 hF2.out) (.cells #[.int .i64 p, .string fn, .string fv] 171)))
      have hbw := bt' hb2 hb1
      have hbx := hbw.alloc hbw.size (.cells #[.int .i64 p, .string fn, .string fv] 171)
      go_ret
      exact ⟨rfl, hbx⟩
end Go.Proofs.Ytghgcobnmmommaa
