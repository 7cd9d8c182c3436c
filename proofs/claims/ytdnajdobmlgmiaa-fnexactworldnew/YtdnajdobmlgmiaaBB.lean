import Derived.Test.YtdnajdobmlgmiaaBA
import Derived.Deep.RegionHeld3
import Derived.Deep.QuietTactic
import Derived.BigQuiet
import Derived.Laws.AppendOwnNone
import Derived.Deep.WholeRow
import Derived.Test.YtdnajdobmlgmiaaBC
namespace Go.Proofs.Ytdnajdobmlgmiaa
open Go.RowKit
set_option linter.unusedVariables false

set_option maxRecDepth 100000 in
set_option maxHeartbeats 400000 in
theorem specFieldOk (f : Fd) (w : World) (h1 : f.n.size ≤ 1048576) (h2 : f.v.size ≤ 1048576) :
    Calls Try.prog 62 #[f.val] w fun e w' => e = .returned (.bool (fOk f)) ∧ Below w.heap.size w w' := by
  have k1 := specWordOk f.n
  have k2 := specWordOk f.v
  have hm1 : f.n.size ≤ maxLen := by unfold maxLen; omega
  have hm2 : f.v.size ≤ maxLen := by unfold maxLen; omega
  unfold Fd.val fOk
  cases hA : wOk (bytesL f.n) with
  | false =>
    rw [hA] at k1
    simp only [Bool.false_and]
    clear hA
    go_enter Try.func62, Try.ntmps62
    go_wp2_with (go_at_call 61; refine (k1 _ hm1).mono ?_; rintro e w1 ⟨rfl, rfl⟩)
    go_ret
    exact ⟨rfl, (Below.refl _ _).alloc (Nat.le_refl _) _⟩
  | true =>
    rw [hA] at k1
    clear hA
    cases hE : f.n.toList.isEmpty with
    | true =>
      simp only [Bool.not_true, Bool.and_false, Bool.false_and]
      go_enter Try.func62, Try.ntmps62
      go_wp2_with (go_at_call 61; refine (k1 _ hm1).mono ?_; rintro e w1 ⟨rfl, rfl⟩)
      go_ret
      exact ⟨rfl, (Below.refl _ _).alloc (Nat.le_refl _) _⟩
    | false =>
      obtain ⟨b, hb⟩ : ∃ b, wOk (bytesL f.v) = b := ⟨_, rfl⟩
      rw [hb] at k2 ⊢
      simp only [Bool.not_false, Bool.and_true, Bool.true_and]
      clear hb
      go_enter Try.func62, Try.ntmps62
      go_wp2_with (go_at_call 61; first | (refine (k1 _ hm1).mono ?_; clear k1; rintro e w1 ⟨rfl, rfl⟩) | (refine (k2 _ hm2).mono ?_; rintro e w1 ⟨rfl, rfl⟩))
      go_ret
      exact ⟨rfl, (Below.refl _ _).alloc (Nat.le_refl _) _⟩

set_option maxRecDepth 100000 in
set_option maxHeartbeats 400000 in
theorem l3One_any (f : Fd) (w : World) (h1 : f.n.size ≤ 1048576) (h2 : f.v.size ≤ 1048576) :
    Calls Try.prog 77 #[f.val] w fun e w' => e = .returned (.int .i64 (fLen f)) ∧ Below w.heap.size w w' := by
  unfold Fd.val fLen
  go_enter Try.func77, Try.ntmps77
  go_wp2
  go_ret
  exact ⟨rfl, (Below.refl _ _).alloc (Nat.le_refl _) _⟩

set_option maxRecDepth 100000 in
set_option maxHeartbeats 400000 in
theorem l6In_any (n a b : Int) (w : World) :
    Calls Try.prog 59 #[.int .i64 n, .int .i64 a, .int .i64 b] w fun e w' => e = .returned (.bool (decide (a ≤ n) && decide (n ≤ b))) ∧ w' = w := by
  by_cases h1 : a ≤ n
  · by_cases h2 : n ≤ b
    · go_enter Try.func59, Try.ntmps59
      go_wp2
      go_ret
      exact ⟨ret_bool' (by first | (simp; done) | (simp; omega)), rfl⟩
    · have h2' : b < n := by omega
      go_enter Try.func59, Try.ntmps59
      go_wp2
      go_ret
      exact ⟨ret_bool' (by first | (simp; done) | (simp; omega)), rfl⟩
  · have h1' : n < a := by omega
    go_enter Try.func59, Try.ntmps59
    go_wp2
    go_ret
    exact ⟨ret_bool' (by first | (simp; done) | (simp; omega)), rfl⟩

set_option maxRecDepth 100000 in
set_option maxHeartbeats 1000000 in
theorem l3Size_any (fs : List Fd) (a : Option Addr) (n cap : Nat) (w : World) (hf : Fs w a n cap fs) (hbd : fsBd fs) (hn : n ≤ 2000000) :
    Calls Try.prog 63 #[.slice a n cap] w fun e w' => e = .returned (.int .i64 (fSum fs)) ∧ Below w.heap.size w w' := by
  have HF : Hid (Fs w a n cap fs) := hf
  have HB : Hid (fsBd fs) := hbd
  clear hf hbd
  go_enter Try.func63, Try.ntmps63
  go_wp2
  go_loopw [3, 4] (fun s i wr => ∃ k : Nat, k ≤ n ∧ i = .int .i64 k ∧ s = .int .i64 (fSum (fs.take k)) ∧ Below w.heap.size w wr) (fun _ i _ => n - (intOf i).toNat)
  case atStart => exact ⟨0, by omega, rfl, rfl, Below.refl _ _⟩
  case round =>
    obtain ⟨k, hk, rfl, rfl, hbel⟩ := hrel
    have hsb := fSum_bd (fs.take k) (fun f hf => HB.out f (List.mem_of_mem_take hf))
    have hsl : (fs.take k).length ≤ n := by rw [List.length_take]; have := HF.out.len; omega
    obtain ⟨s0, s1⟩ := hsb
    have s2 : fSum (fs.take k) ≤ 2097156 * 2000000 := by omega
    clear s1 hsl
    by_cases hlt : k < n
    · have hlt' : (k : Int) < n := by omega
      have hkl : k < fs.length := by rw [HF.out.len]; exact hlt
      obtain ⟨g, o, rfl⟩ := HF.out.some' (by omega)
      obtain ⟨f, hff⟩ : ∃ f, fs[k] = f := ⟨_, rfl⟩
      obtain ⟨c0, c1, c2⟩ := (HF.out.below hbel).at k hkl
      rw [hff] at c0 c1 c2
      have hfb := HB.out f (by rw [← hff]; exact List.getElem_mem hkl)
      have HS : Hid (fSum (fs.take (k + 1)) = fSum (fs.take k) + fLen f) := by
        show fSum (fs.take (k + 1)) = fSum (fs.take k) + fLen f
        rw [List.take_succ_eq_append_getElem hkl, fSum_snoc, hff]
      have l0 : 0 ≤ fLen f := by unfold fLen; omega
      have l1 : fLen f ≤ 2097156 := by unfold fLen; omega
      have hone := fun w => l3One_any f w hfb.1 hfb.2
      unfold Fd.val at hone
      clear hff hkl hfb
      go_wp2_with (go_at_call 77; refine (hone _).mono ?_; rintro e w1 ⟨rfl, hb1⟩)
      go_roundw
      case rel => exact ⟨k + 1, by omega, by go_num, by rw [HS.out], hbel.trans (hb1.mono hbel.size)⟩
      case measure => simp [intOf]; omega
    · have hall : fs.take k = fs := List.take_of_length_le (by rw [HF.out.len]; omega)
      rw [hall]
      clear hall
      go_wp2
      go_ret
      exact ⟨rfl, hbel⟩
theorem tOk_bad {fs : List Fd} {max : Int} {k : Nat} (hk : k < fs.length) (h : (fOk fs[k] && !fs[k].q) = false) : tOk fs max = false := by
  unfold tOk
  have : fs.all (fun f => fOk f && !f.q) = false := by
    rw [List.all_eq_false]
    exact ⟨fs[k], List.getElem_mem hk, by rw [h]; decide⟩
  rw [this]; rfl
theorem tOk_good {fs : List Fd} {max : Int} (h : ∀ j (hj : j < fs.length), (fOk fs[j] && !fs[j].q) = true) : tOk fs max = (decide (0 ≤ max) && decide (max ≤ 64) && decide (fSum fs ≤ max)) := by
  unfold tOk
  have : fs.all (fun f => fOk f && !f.q) = true := by
    rw [List.all_eq_true]
    intro f hf
    obtain ⟨j, hj, rfl⟩ := List.getElem_of_mem hf
    exact h j hj
  rw [this, Bool.true_and]

theorem keep_tab {w w1 w2 : World} {B n cap : Nat} {a : Option Addr} {fs : List Fd} {x y : Value} (hb : Below w1.heap.size w1 w2) (h0 : w1.cell? ⟨B, 0, none⟩ = some x) (h1 : w1.cell? ⟨B, 1, none⟩ = some y) (h2 : Fs w1 a n cap fs) (h3 : Below w.heap.size w w1) :
    w2.cell? ⟨B, 0, none⟩ = some x ∧ w2.cell? ⟨B, 1, none⟩ = some y ∧ Fs w2 a n cap fs ∧ Below w.heap.size w w2 :=
  ⟨(hb.cell (p := ⟨B, 0, none⟩) (World.block_lt_of_cell? w1 _ h0)).trans h0, (hb.cell (p := ⟨B, 1, none⟩) (World.block_lt_of_cell? w1 _ h1)).trans h1, h2.below hb, h3.trans (hb.mono h3.size)⟩
theorem bdrewT {a w : World} {B : Nat} (h : Below B a w) (n : Nat) : Below B a (w.drewN n) := by
  obtain ⟨h1, h2, h3, h4, h5⟩ := h
  exact ⟨h1, h2, h3, h4, h5⟩
set_option maxRecDepth 100000 in
set_option maxHeartbeats 1000000 in
theorem specTableOk (fs : List Fd) (a : Option Addr) (n cap : Nat) (max : Int) (w : World) (hf : Fs w a n cap fs) (hbd : fsBd fs) (hn : n ≤ 1048576) :
    Calls Try.prog 39 #[.agg #[.slice a n cap, .int .i64 max]] w fun e w' => e = .returned (.bool (tOk fs max)) ∧ Below w.heap.size w w' := by
  have HF : Hid (Fs w a n cap fs) := hf
  have HB : Hid (fsBd fs) := hbd
  clear hf hbd
  go_enter Try.func39, Try.ntmps39
  go_wp2
  go_loopw [3] (fun i wr => ∃ k : Nat, k ≤ n ∧ i = .int .i64 k ∧ (∀ j (hj : j < fs.length), j < k → (fOk fs[j] && !fs[j].q) = true) ∧ Below (w.heap.size + 1) (w.alloc (.cells #[.slice a n cap, .int .i64 max] 24)) wr) (fun i _ => n - (intOf i).toNat)
  case atStart => exact ⟨0, by omega, rfl, by intro j hj h; omega, Below.refl _ _⟩
  case round =>
    obtain ⟨k, hk, rfl, hall, hbel⟩ := hrel
    have HA : Hid (∀ j (hj : j < fs.length), j < k → (fOk fs[j] && !fs[j].q) = true) := hall
    clear hall
    have t0 : wr.cell? ⟨w.heap.size, 0, none⟩ = some (.slice a n cap) := by rw [hbel.cell (p := ⟨w.heap.size, 0, none⟩) (by simp)]; simp
    have t1 : wr.cell? ⟨w.heap.size, 1, none⟩ = some (.int .i64 max) := by rw [hbel.cell (p := ⟨w.heap.size, 1, none⟩) (by simp)]; simp
    have HBW : Hid (Below w.heap.size w wr) := ((Below.refl _ _).alloc (Nat.le_refl _) _).trans (hbel.mono (by omega))
    by_cases hlt : k < n
    · have hlt' : (k : Int) < n := by omega
      have hkl : k < fs.length := by rw [HF.out.len]; exact hlt
      obtain ⟨g, o, rfl⟩ := HF.out.some' (by omega)
      obtain ⟨f, hff⟩ : ∃ f, fs[k] = f := ⟨_, rfl⟩
      obtain ⟨c0, c1, c2⟩ := (HF.out.below HBW.out).at k hkl
      rw [hff] at c0 c1 c2
      have hfb := HB.out f (by rw [← hff]; exact List.getElem_mem hkl)
      have hok := fun w => specFieldOk f w hfb.1 hfb.2
      unfold Fd.val at hok
      cases hfo : fOk f with
      | false =>
        rw [hfo] at hok
        have HV : Hid (tOk fs max = false) := tOk_bad hkl (by rw [hff, hfo]; rfl)
        clear hff hkl hfb hfo
        go_wp2_with (go_at_call 62; refine (hok _).mono ?_; clear hok; rintro e w1 ⟨rfl, hb1⟩)
        go_ret
        exact ⟨ret_bool' HV.out.symm, HBW.out.trans (hb1.mono HBW.out.size)⟩
      | true =>
        rw [hfo] at hok
        obtain ⟨q, hq⟩ : ∃ q, f.q = q := ⟨_, rfl⟩
        rw [hq] at c2 hok
        have HQ : Hid (f.q = q) := hq
        clear hq
        have hwlt : g < wr.heap.size := World.block_lt_of_cell? wr _ c2
        have hwlt2 : w.heap.size < wr.heap.size := World.block_lt_of_cell? wr _ t0
        cases q with
        | true =>
          have HV : Hid (tOk fs max = false) := tOk_bad hkl (by rw [hff, hfo, HQ.out]; rfl)
          clear hff hkl hfb hfo
          go_wp2_with (go_at_call 62; refine (hok _).mono ?_; clear hok; rintro e w1 ⟨rfl, hb1⟩; have c2' := (hb1.cell (p := ⟨g, o + k * 3 + 2, none⟩) hwlt).trans c2; have t0' := (hb1.cell (p := ⟨w.heap.size, 0, none⟩) hwlt2).trans t0)
          go_ret
          exact ⟨ret_bool' HV.out.symm, HBW.out.trans (hb1.mono HBW.out.size)⟩
        | false =>
          have HX : Hid ((fOk fs[k] && !fs[k].q) = true) := by show (fOk fs[k] && !fs[k].q) = true; rw [hff, hfo, HQ.out]; rfl
          clear hff hfb hfo
          go_wp2_with (go_at_call 62; refine (hok _).mono ?_; clear hok; rintro e w1 ⟨rfl, hb1⟩; have c2' := (hb1.cell (p := ⟨g, o + k * 3 + 2, none⟩) hwlt).trans c2; have t0' := (hb1.cell (p := ⟨w.heap.size, 0, none⟩) hwlt2).trans t0)
          go_roundw
          case rel =>
            refine ⟨k + 1, by omega, by go_num, ?_, hbel.trans (hb1.mono (by omega))⟩
            intro j hj h
            by_cases e : j = k
            · subst e; exact HX.out
            · exact HA.out j hj (by omega)
          case measure => simp [intOf]; omega
    · have HV : Hid (tOk fs max = (decide (0 ≤ max) && decide (max ≤ 64) && decide (fSum fs ≤ max))) := tOk_good (fun j hj => HA.out j hj (by have := HF.out.len; omega))
      have hsb := fSum_bd fs HB.out
      rw [HF.out.len] at hsb
      obtain ⟨s0, s1⟩ := hsb
      have hin := fun w => l6In_any max 0 64 w
      have hwlt2 : w.heap.size < wr.heap.size := World.block_lt_of_cell? wr _ t0
      have hmx : Try.prog.follows .mixedOrders = true := by kernel_rfl
      have HFW := HF.out.below HBW.out
      have hsz := fun (w' : World) (h : Fs w' a n cap fs) => l3Size_any fs a n cap w' h HB.out (by omega)
      by_cases hr : 0 ≤ max ∧ max ≤ 64
      · rw [show (decide (0 ≤ max) && decide (max ≤ 64)) = true by simp [hr.1, hr.2]] at hin HV
        have hs0 : fSum fs ≤ 9000000000000 := by omega
        have hFd : Fs wr.drew a n cap fs := HFW.below ((Below.refl _ _).drew)
        have hBd : Below w.heap.size w wr.drew := HBW.out.drew
        have t0d : wr.drew.cell? ⟨w.heap.size, 0, none⟩ = some (.slice a n cap) := t0
        have t1d : wr.drew.cell? ⟨w.heap.size, 1, none⟩ = some (.int .i64 max) := t1
        go_wp2
        go_region_held3 (fun w' => w'.cell? ⟨w.heap.size, 0, none⟩ = some (.slice a n cap) ∧ w'.cell? ⟨w.heap.size, 1, none⟩ = some (.int .i64 max) ∧ Fs w' a n cap fs ∧ Below w.heap.size w w') (first | exact ⟨t0d, t1d, hFd, hBd⟩ | exact keep_tab hbN (by assumption) (by assumption) (by assumption) (by assumption)) ((first | (go_at_call 59; refine (hin _).mono ?_; rintro e w' ⟨rfl, rfl⟩) | (go_at_call 63; refine (hsz _ (by assumption)).mono ?_; rintro e wN ⟨rfl, hbN⟩)))
        go_wp2
        go_ret
        exact ⟨ret_bool' (by rw [HV.out]; rfl), hBd.trans (hbN.mono hBd.size)⟩
      · have hin0 : (decide (0 ≤ max) && decide (max ≤ 64)) = false := by
          by_cases h0 : 0 ≤ max
          · have : ¬ max ≤ 64 := fun h => hr ⟨h0, h⟩
            simp [this]
          · simp [h0]
        rw [hin0] at hin HV
        have t0d : wr.drew.cell? ⟨w.heap.size, 0, none⟩ = some (.slice a n cap) := t0
        have t1d : wr.drew.cell? ⟨w.heap.size, 1, none⟩ = some (.int .i64 max) := t1
        clear hin0 hr
        go_wp2
        go_quiet ((go_at_call 59; exact Calls.quiet_of_same (hin _)))
        go_wp2
        go_ret
        exact ⟨ret_bool' (by rw [HV.out]; rfl), bdrewT HBW.out _⟩
end Go.Proofs.Ytdnajdobmlgmiaa

namespace Go.Proofs.Ytdnajdobmlgmiaa
open Go.RowKit
set_option linter.unusedVariables false

theorem infoF : (Try.prog.info? 98).map (fun i => (i.zero, i.size, i.bytes)) = some (some (.agg #[.string ⟨#[]⟩, .string ⟨#[]⟩, .bool false]), 3, 40) := by kernel_rfl
theorem infoT2 : (Try.prog.info? 24).map (·.size) = some 2 := by kernel_rfl
/-- The first fields, as many as fit. -/
def fitL : Int → List Fd → List Fd
  | _, [] => []
  | max, f :: t => if fLen f ≤ max then f :: fitL (max - fLen f) t else []
theorem fLen_pos (f : Fd) : 4 ≤ fLen f := by unfold fLen; omega
theorem fSum_four (fs : List Fd) : 4 * (fs.length : Int) ≤ fSum fs := by
  induction fs with
  | nil => simp [fSum]
  | cons f t ih => have := fLen_pos f; simp only [fSum, List.length_cons]; omega
theorem fSum_nonneg (fs : List Fd) : 0 ≤ fSum fs := by
  induction fs with
  | nil => simp [fSum]
  | cons f t ih => have := fLen_pos f; simp only [fSum]; omega
theorem fitL_take (max : Int) (fs : List Fd) : fitL max fs = fs.take (fitL max fs).length := by
  induction fs generalizing max with
  | nil => rfl
  | cons f t ih =>
    unfold fitL
    split
    · rw [List.length_cons, List.take_succ_cons, ← ih]
    · rfl
theorem fitL_sum (max : Int) (fs : List Fd) (h : 0 ≤ max) : fSum (fitL max fs) ≤ max := by
  induction fs generalizing max with
  | nil => simpa [fitL, fSum] using h
  | cons f t ih =>
    unfold fitL
    split
    · rename_i hl
      have := ih (max - fLen f) (by omega)
      simp only [fSum]; omega
    · simpa [fSum] using h
theorem fitL_len (max : Int) (fs : List Fd) (k : Nat) (hk : k ≤ fs.length) (h : fSum (fs.take k) ≤ max) : k ≤ (fitL max fs).length := by
  induction fs generalizing max k with
  | nil => simp at hk; omega
  | cons f t ih =>
    cases k with
    | zero => omega
    | succ k =>
      rw [List.take_succ_cons] at h
      simp only [fSum] at h
      have h0 := fSum_nonneg (t.take k)
      unfold fitL
      rw [if_pos (by omega), List.length_cons]
      have := ih (max - fLen f) k (by simpa using hk) (by omega)
      omega
theorem fSum_take_le (fs : List Fd) (j k : Nat) (h : j ≤ k) : fSum (fs.take j) ≤ fSum (fs.take k) := by
  induction fs generalizing j k with
  | nil => simp
  | cons f t ih =>
    cases j with
    | zero => have := fSum_nonneg ((f :: t).take k); simpa [fSum] using this
    | succ j =>
      cases k with
      | zero => omega
      | succ k =>
        rw [List.take_succ_cons, List.take_succ_cons]
        simp only [fSum]
        have := ih j k (by omega)
        omega
theorem fitL_lt (max : Int) (fs : List Fd) (k : Nat) (h0 : 0 ≤ max) (h : max < fSum (fs.take k)) : (fitL max fs).length < k := by
  have h1 := fitL_sum max fs h0
  rw [fitL_take] at h1
  have : ¬ k ≤ (fitL max fs).length := by
    intro hk
    have := fSum_take_le fs k _ hk
    omega
  omega
theorem own_Fs {W : World} {base n cap : Nat} {a : Option Addr} {fs : List Fd} (h : W.ownsRow base 98 3 (.slice a n cap) n (cellsF fs)) : Fs W a n cap fs := by
  have hl := h.1
  rw [cellsF_length] at hl
  have hcs := h
  rcases h.2 with ⟨hv, rfl⟩ | ⟨g, c, cur, hv, _, _, h1, h2, _⟩
  · injection hv with e1 e2 e3
    subst e1; subst e3
    exact ⟨by omega, Nat.le_refl _, by unfold maxLen; omega, (by intro g o e; cases e), (by intro h; omega), .inl ⟨rfl, rfl, rfl⟩⟩
  · injection hv with e1 e2 e3
    subst e1; subst e3
    refine ⟨by omega, h1, h2, ?_, fun _ => ⟨g, 0, rfl⟩, .inr ⟨g, 0, rfl⟩⟩
    intro g' o e j u hu
    injection e with e
    injection e with e1 e2
    subst e1; subst e2
    have := hcs.cells (g := g) rfl j u hu
    rwa [Addr.add_lit] at this
theorem own_less {W : World} {base n cap m : Nat} {g : Nat} {e : TypeId} {size : Nat} {xs : List Value} (h : W.ownsRow base e size (.slice (some ⟨g, 0, none⟩) n cap) n xs) (hm : m ≤ n) : W.ownsRow base e size (.slice (some ⟨g, 0, none⟩) m cap) m (xs.take (m * size)) := by
  have hle : m * size ≤ n * size := Nat.mul_le_mul_right _ hm
  refine ⟨by rw [List.length_take, h.1]; omega, ?_⟩
  rcases h.2 with ⟨hv, _⟩ | ⟨g', c, cur, hv, h0, h1, h2, h3, h4, h5⟩
  · injection hv with e1; cases e1
  · injection hv with e1 e2 e3
    injection e1 with e1
    injection e1 with e1
    subst e1; subst e3
    refine .inr ⟨g, cap, cur, rfl, h0, h1, Nat.le_trans hm h2, h3, h4, ?_⟩
    rw [← h5, List.take_take, Nat.min_eq_left hle]
theorem cellsF_take (fs : List Fd) (k : Nat) : (cellsF fs).take (k * 3) = cellsF (fs.take k) := by
  induction fs generalizing k with
  | nil => simp [cellsF]
  | cons f t ih =>
    cases k with
    | zero => simp [cellsF]
    | succ k =>
      rw [List.take_succ_cons, cellsF_cons, cellsF_cons, show (k + 1) * 3 = k * 3 + 1 + 1 + 1 by omega, List.take_succ_cons, List.take_succ_cons, List.take_succ_cons, ih]
/-- 'append' of fields. -/
theorem wpList_appFs {ops : Array Oper} {rest : List Oper} {o : Oper} {act : Act} {Q : Exit → Act → World → Prop} (w : World) (hgd : o.guard = none) (s x : Operand)
    (ho : o.op = .call { callee := .builtin .append, args := #[s, x], argTypes := #[22, 22] })
    (base : Nat) (v : Value) (k : Nat) (xs : List Value) (hs : act.eval s = v) (hown : w.ownsRow base 98 3 v k xs) (a : Option Addr) (n cap : Nat) (fs : List Fd) (hx : act.eval x = .slice a n cap) (hf : Fs w a n cap fs)
    (hk : k + n ≤ 3000000) (hb : base ≤ w.heap.size)
    (h : ∀ v' w', w'.ownsRow base 98 3 v' (k + n) (xs ++ cellsF fs) → w.grownBy w' v.ownBlock → wpList Try.prog ops Q rest (act.put o.dst v') w') : wpList Try.prog ops Q (o :: rest) act w := by
  obtain ⟨ii, hi, hz0, hz1, hz2⟩ := info_parts infoF
  rcases hf.form with ⟨rfl, rfl, rfl⟩ | ⟨g, of, rfl⟩
  · have hfs : fs = [] := List.eq_nil_of_length_eq_zero hf.len
    subst hfs
    refine wpList_append_own_none hgd s x 22 ho base 98 ii 3 Try.underlying22 hi v k xs hs hown hx ?_
    exact h v w (by simpa [cellsF] using hown) ⟨rfl, rfl, rfl, Nat.le_refl _, fun _ _ _ => rfl⟩
  · refine wpList_append_own w hgd s x 22 ho base 98 ii (.agg #[.string ⟨#[]⟩, .string ⟨#[]⟩, .bool false]) 3 40 Try.underlying22 hi hz0 hz1 hz2 rfl (by decide) v k xs hs hown ⟨g, of, none⟩ n cap (cellsF fs) hx (by rw [cellsF_length, hf.len]) ?_ (cellsF_one fs) (by unfold maxLen; omega) (by omega) hb (fun v' w' h1 h2 _ => h v' w' h1 h2)
    intro j u hu
    have := hf.cells g of rfl j u hu
    rw [Addr.add_lit]
    exact this
theorem own_zero3 (w : World) (e : TypeId) : (w.alloc (.cells #[] e)).ownsRow w.heap.size e 3 (.slice (some ⟨w.heap.size, 0, none⟩) 0 0) 0 [] :=
  ⟨rfl, .inr ⟨w.heap.size, 0, #[], rfl, Nat.le_refl _, by show (w.heap.push _)[w.heap.size]? = _; simp, Nat.le_refl _, by decide, rfl, rfl⟩⟩
theorem own_formT {w : World} {base : Nat} {e : TypeId} {size : Nat} {v : Value} {n : Nat} {xs : List Value} (h : w.ownsRow base e size v n xs) : ∃ a c, v = .slice a n c := by
  rcases h.2 with ⟨rfl, rfl⟩ | ⟨g, cap, cur, rfl, _⟩
  · exact ⟨_, _, rfl⟩
  · exact ⟨_, _, rfl⟩
theorem own_belowT {w w' : World} {base : Nat} {e : TypeId} {size : Nat} {v : Value} {n : Nat} {xs : List Value} (h : w.ownsRow base e size v n xs) (hb : Below w.heap.size w w') : w'.ownsRow base e size v n xs := by
  refine ⟨h.1, ?_⟩
  rcases h.2 with h0 | ⟨g, cap, cur, h1, h2, h3, h4⟩
  · exact .inl h0
  · exact .inr ⟨g, cap, cur, h1, h2, by rw [hb.block g (Array.getElem?_eq_some_iff.1 h3).1]; exact h3, h4⟩
theorem own_baseT {w : World} {b b' : Nat} {e : TypeId} {size : Nat} {v : Value} {n : Nat} {xs : List Value} (h : w.ownsRow b e size v n xs) (hb : b' ≤ b) : w.ownsRow b' e size v n xs := by
  refine ⟨h.1, ?_⟩
  rcases h.2 with h0 | ⟨g, cap, cur, h1, h2, h3⟩
  · exact .inl h0
  · exact .inr ⟨g, cap, cur, h1, Nat.le_trans hb h2, h3⟩

theorem blkT {W : World} {B : Nat} {o : Obj} (h : W.heap[B]? = some o) (o' : Obj) : (W.alloc o').heap[B]? = some o := by
  have := (Array.getElem?_eq_some_iff.1 h).1
  show (W.heap.push o')[B]? = _
  rw [Array.getElem?_push, if_neg (by omega)]
  exact h
theorem keep_fit {w w1 w2 : World} {B : Nat} {v x : Value} {k : Nat} {xs : List Value} {o1 o2 : Obj} (hb : Below w1.heap.size w1 w2) (h0 : w1.cell? ⟨B, 1, none⟩ = some x) (h1 : w1.ownsRow w.heap.size 98 3 v k xs) (h2 : w1.heap[B]? = some o1) (h3 : w1.heap[B + 1]? = some o2) (h4 : Below w.heap.size w w1) :
    w2.cell? ⟨B, 1, none⟩ = some x ∧ w2.ownsRow w.heap.size 98 3 v k xs ∧ w2.heap[B]? = some o1 ∧ w2.heap[B + 1]? = some o2 ∧ Below w.heap.size w w2 :=
  ⟨(hb.cell (p := ⟨B, 1, none⟩) (World.block_lt_of_cell? w1 _ h0)).trans h0, own_belowT h1 hb, (hb.block _ (Array.getElem?_eq_some_iff.1 h2).1).trans h2, (hb.block _ (Array.getElem?_eq_some_iff.1 h3).1).trans h3, h4.trans (hb.mono h4.size)⟩
theorem grown_setRowT (w : World) (g : Nat) (cs : Array Value) : w.grownBy (w.setRow g cs) (some g) := by
  refine ⟨rfl, rfl, rfl, by simp [World.setRow], fun k _ hk => ?_⟩
  show (w.heap.modify g _)[k]? = _
  rw [Array.getElem?_modify, if_neg (fun e => hk (by rw [e]))]
theorem not_rowT {W : World} {B : Nat} {t e : TypeId} {C : Array Value} {fr : Nat × Nat} (h : W.heap[B]? = some (.cells C t fr)) (hte : t ≠ e) {base size k : Nat} {v : Value} {xs : List Value} (hr : W.ownsRow base e size v k xs) : some B ≠ v.ownBlock := by
  rcases hr.2 with ⟨rfl, _⟩ | ⟨g, cap, cur, rfl, _, hgb, _⟩
  · simp [Value.ownBlock]
  · intro e'
    obtain rfl : B = g := by simpa [Value.ownBlock] using e'
    have := h.symm.trans hgb
    simp at this
    exact hte this.2.1
def lenT : Value → Nat
  | .slice _ n _ => n
  | _ => 0
end Go.Proofs.Ytdnajdobmlgmiaa

namespace Go.Proofs.Ytdnajdobmlgmiaa
open Go.RowKit
set_option linter.unusedVariables false

/-- 'append' of fields in a region that draws its order. -/
theorem step_appFs {ops : Array Oper} {o : Oper} {act : Act} {K : Act → World → Prop} {Q : Exit → Act → World → Prop} {E : Prop} (w : World) (hgd : o.guard = none) (s x : Operand)
    (ho : o.op = .call { callee := .builtin .append, args := #[s, x], argTypes := #[22, 22] })
    (base : Nat) (v : Value) (k : Nat) (xs : List Value) (hs : act.eval s = v) (hown : w.ownsRow base 98 3 v k xs) (a : Option Addr) (n cap : Nat) (fs : List Fd) (hx : act.eval x = .slice a n cap) (hf : Fs w a n cap fs)
    (hk : k + n ≤ 3000000) (hb : base ≤ w.heap.size)
    (h : ∀ v' w', w'.ownsRow base 98 3 v' (k + n) (xs ++ cellsF fs) → w.grownBy w' v.ownBlock → K (act.put o.dst v') w') : if Region.wanted o (yielded ops act.tmps) = true then Oper.wp Try.prog o act w K Q else E := by
  have hw : Region.wanted o (yielded ops act.tmps) = true := by simp [Region.wanted, hgd]
  rw [if_pos hw]
  obtain ⟨ii, hi, hz0, hz1, hz2⟩ := info_parts infoF
  rcases hf.form with ⟨rfl, rfl, rfl⟩ | ⟨g, of, rfl⟩
  · have hfs : fs = [] := List.eq_nil_of_length_eq_zero hf.len
    subst hfs
    have hrun := run_append_owned_none (P := Try.prog) (w := w) base 22 o.type 98 ii 3 Try.underlying22 hi v k xs hown
    unfold Oper.wp
    simp [execOp, ho, resolve, invoke, builtin, hs, hx, hrun, Result.andThen]
    exact h v w (by simpa [cellsF] using hown) ⟨rfl, rfl, rfl, Nat.le_refl _, fun _ _ _ => rfl⟩
  · obtain ⟨v', w', hrun, r1, r2, r3⟩ := run_append_own (P := Try.prog) w base 22 o.type 98 ii (.agg #[.string ⟨#[]⟩, .string ⟨#[]⟩, .bool false]) 3 40 Try.underlying22 hi hz0 hz1 hz2 rfl (by decide) v k xs hown ⟨g, of, none⟩ n cap (cellsF fs) (by rw [cellsF_length, hf.len]) (by
        intro j u hu
        have := hf.cells g of rfl j u hu
        rw [Addr.add_lit]
        exact this) (cellsF_one fs) (by unfold maxLen; omega) (by omega) hb
    unfold Oper.wp
    simp [execOp, ho, resolve, invoke, builtin, hs, hx, hrun, Result.andThen]
    exact h v' w' r1 r2
theorem own_one3 (w : World) (base : Nat) (e : TypeId) (x y z : Value) (hb : base ≤ w.heap.size) : (w.alloc (.cells #[x, y, z] e)).ownsRow base e 3 (.slice (some ⟨w.heap.size, 0, none⟩) 1 1) 1 [x, y, z] :=
  ⟨rfl, .inr ⟨w.heap.size, 1, #[x, y, z], rfl, hb, by show (w.heap.push _)[w.heap.size]? = _; simp, Nat.le_refl _, by decide, rfl, rfl⟩⟩

theorem Fs.lt' {w : World} {a : Option Addr} {g o n cap : Nat} {fs : List Fd} (h : Fs w a n cap fs) (e : a = some ⟨g, o, none⟩) (hn : 0 < n) : g < w.heap.size := by
  subst e
  exact h.lt hn
/-- What lies in memory while a field is added. -/
structure TA (w : World) (B : Nat) (a : Option Addr) (n cap : Nat) (max : Int) (f : Fd) (fs : List Fd) (w' : World) : Prop where
  tab : w'.heap[B]? = some (.cells #[.slice a n cap, .int .i64 max] 24 (0, 0))
  fld : w'.heap[B + 1]? = some (.cells #[.string f.n, .string f.v, .bool false] 98 (0, 0))
  res : w'.heap[B + 1 + 1]? = some (.cells #[.slice none 0 0, .int .i64 0] 24 (0, 0))
  fs : Fs w' a n cap fs
  bel : Below w.heap.size w w'
theorem TA.below {w : World} {B : Nat} {a : Option Addr} {n cap : Nat} {max : Int} {f : Fd} {fs : List Fd} {w1 w2 : World} (h : TA w B a n cap max f fs w1) (hb : Below w1.heap.size w1 w2) : TA w B a n cap max f fs w2 :=
  ⟨(hb.block _ (Array.getElem?_eq_some_iff.1 h.tab).1).trans h.tab, (hb.block _ (Array.getElem?_eq_some_iff.1 h.fld).1).trans h.fld, (hb.block _ (Array.getElem?_eq_some_iff.1 h.res).1).trans h.res, h.fs.below hb, h.bel.trans (hb.mono h.bel.size)⟩
theorem TA.alloc {w : World} {B : Nat} {a : Option Addr} {n cap : Nat} {max : Int} {f : Fd} {fs : List Fd} {w1 : World} (h : TA w B a n cap max f fs w1) (o : Obj) : TA w B a n cap max f fs (w1.alloc o) :=
  h.below ((Below.refl _ _).alloc (Nat.le_refl _) _)
theorem TA.cells {w : World} {B : Nat} {a : Option Addr} {n cap : Nat} {max : Int} {f : Fd} {fs : List Fd} {w' : World} (h : TA w B a n cap max f fs w') : w'.cell? ⟨B, 0, none⟩ = some (.slice a n cap) ∧ w'.cell? ⟨B, 1, none⟩ = some (.int .i64 max) ∧ w'.cell? ⟨B + 1, 0, none⟩ = some (.string f.n) ∧ w'.cell? ⟨B + 1, 1, none⟩ = some (.string f.v) ∧ w'.cell? ⟨B + 1, 2, none⟩ = some (.bool false) ∧ w'.cell? ⟨B + 1 + 1, 0, none⟩ = some (.slice none 0 0) ∧ w'.cell? ⟨B + 1 + 1, 1, none⟩ = some (.int .i64 0) ∧ w'.frozen? ⟨B + 1 + 1, 0, none⟩ = false ∧ w'.frozen? ⟨B + 1 + 1, 1, none⟩ = false :=
  ⟨cell_of_row _ _ 0 _ _ _ h.tab, cell_of_row _ _ 1 _ _ _ h.tab, cell_of_row _ _ 0 _ _ _ h.fld, cell_of_row _ _ 1 _ _ _ h.fld, cell_of_row _ _ 2 _ _ _ h.fld, cell_of_row _ _ 0 _ _ _ h.res, cell_of_row _ _ 1 _ _ _ h.res, by simp [World.frozen?, h.res], by simp [World.frozen?, h.res]⟩
theorem TA.five {w : World} {B : Nat} {a : Option Addr} {n cap : Nat} {max : Int} {f : Fd} {fs : List Fd} {w' : World} (h : TA w B a n cap max f fs w') : w'.cell? ⟨B, 0, none⟩ = some (.slice a n cap) ∧ w'.cell? ⟨B, 1, none⟩ = some (.int .i64 max) ∧ w'.cell? ⟨B + 1, 0, none⟩ = some (.string f.n) ∧ w'.cell? ⟨B + 1, 1, none⟩ = some (.string f.v) ∧ w'.cell? ⟨B + 1, 2, none⟩ = some (.bool false) :=
  ⟨h.cells.1, h.cells.2.1, h.cells.2.2.1, h.cells.2.2.2.1, h.cells.2.2.2.2.1⟩
theorem cell_set (W : World) (p q : Addr) (v : Value) (hne : q.block ≠ p.block) : (W.setCell p v).cell? q = W.cell? q := World.cell?_of_block (Below.heap_setCell W p v q.block hne)
theorem TA.five_set {w : World} {B : Nat} {a : Option Addr} {n cap : Nat} {max : Int} {f : Fd} {fs : List Fd} {w' : World} (h : TA w B a n cap max f fs w') (x y : Value) : ((w'.setCell ⟨B + 1 + 1, 0, none⟩ x).setCell ⟨B + 1 + 1, 1, none⟩ y).cell? ⟨B, 0, none⟩ = some (.slice a n cap) ∧ ((w'.setCell ⟨B + 1 + 1, 0, none⟩ x).setCell ⟨B + 1 + 1, 1, none⟩ y).cell? ⟨B, 1, none⟩ = some (.int .i64 max) ∧ ((w'.setCell ⟨B + 1 + 1, 0, none⟩ x).setCell ⟨B + 1 + 1, 1, none⟩ y).cell? ⟨B + 1, 0, none⟩ = some (.string f.n) ∧ ((w'.setCell ⟨B + 1 + 1, 0, none⟩ x).setCell ⟨B + 1 + 1, 1, none⟩ y).cell? ⟨B + 1, 1, none⟩ = some (.string f.v) ∧ ((w'.setCell ⟨B + 1 + 1, 0, none⟩ x).setCell ⟨B + 1 + 1, 1, none⟩ y).cell? ⟨B + 1, 2, none⟩ = some (.bool false) := by
  have h5 := h.five
  have n0 : B ≠ B + 1 + 1 := by omega
  have n1 : B + 1 ≠ B + 1 + 1 := by omega
  refine ⟨?_, ?_, ?_, ?_, ?_⟩
  · rw [cell_set _ _ _ _ n0, cell_set _ _ _ _ n0]; exact h5.1
  · rw [cell_set _ _ _ _ n0, cell_set _ _ _ _ n0]; exact h5.2.1
  · rw [cell_set _ _ _ _ n1, cell_set _ _ _ _ n1]; exact h5.2.2.1
  · rw [cell_set _ _ _ _ n1, cell_set _ _ _ _ n1]; exact h5.2.2.2.1
  · rw [cell_set _ _ _ _ n1, cell_set _ _ _ _ n1]; exact h5.2.2.2.2
theorem TA.grown {w : World} {a : Option Addr} {n cap : Nat} {max : Int} {f : Fd} {fs : List Fd} {W0 w1 : World} {o : Obj} {v : Value} (h : TA w w.heap.size a n cap max f fs (W0.drew.alloc o)) (hg : (W0.drew.alloc o).grownBy w1 v.ownBlock) (hs : W0.heap.size = w.heap.size + 1 + 1 + 1) (hv : v.ownBlock = some W0.heap.size) (hlt : ∀ g x, a = some ⟨g, x, none⟩ → 0 < n → g < W0.heap.size) : TA w w.heap.size a n cap max f fs w1 := by
  rw [hv] at hg
  have hz : (W0.drew.alloc o).heap.size = W0.heap.size + 1 := by simp
  have hb : Below W0.heap.size (W0.drew.alloc o) w1 := (Below.refl _ _).grown hg (by rw [hz]; omega) (fun k e => by injection e with e; omega)
  refine ⟨(hb.block _ (by omega)).trans h.tab, (hb.block _ (by omega)).trans h.fld, (hb.block _ (by omega)).trans h.res, ?_, h.bel.trans (hb.mono (by omega))⟩
  refine ⟨h.fs.len, h.fs.le, h.fs.cmax, ?_, h.fs.some', h.fs.form⟩
  intro g x e j u hu
  have hc := h.fs.cells g x e j u hu
  have hn : 0 < n := by
    have h1 := (List.getElem?_eq_some_iff.1 hu).1
    rw [cellsF_length, h.fs.len] at h1
    omega
  rw [hb.cell (p := ⟨g, x + j, none⟩) (hlt g x e hn)]
  exact hc
theorem own_Fs' {W : World} {base n : Nat} {v : Value} {f : Fd} {fs : List Fd} (h : W.ownsRow base 98 3 v (1 + n) ([.string f.n, .string f.v, .bool false] ++ cellsF fs)) : ∃ a cap, v = .slice a (1 + n) cap ∧ Fs W a (1 + n) cap (⟨f.n, f.v, false⟩ :: fs) := by
  obtain ⟨a, c, rfl⟩ := own_formT h
  exact ⟨a, c, rfl, own_Fs (by rw [cellsF_cons]; exact h)⟩

theorem set2_heap {W : World} {B : Nat} {a b : Value} {t : TypeId} (x y : Value) (h : W.heap[B]? = some (.cells #[a, b] t (0, 0))) : ((W.setCell ⟨B, 0, none⟩ x).setCell ⟨B, 1, none⟩ y).heap[B]? = some (.cells #[x, y] t (0, 0)) := by
  have key : ∀ (W : World) (a b : Value) (o : Nat) (v : Value), W.heap[B]? = some (.cells #[a, b] t (0, 0)) → (W.setCell ⟨B, o, none⟩ v).heap[B]? = some (.cells (#[a, b].setIfInBounds o v) t (0, 0)) := by
    intro W a b o v h
    obtain ⟨hlt, hk⟩ := Array.getElem?_eq_some_iff.1 h
    show (W.heap.modify B _)[B]? = _
    rw [Array.getElem?_eq_getElem (by rw [Array.size_modify]; exact hlt), Array.getElem_modify_self, hk]
    rfl
  exact key _ _ _ 1 y (key W _ _ 0 x h)
theorem own_setT {W : World} {base : Nat} {e : TypeId} {size : Nat} {v : Value} {k : Nat} {xs : List Value} (h : W.ownsRow base e size v k xs) (p : Addr) (u : Value) (hne : some p.block ≠ v.ownBlock) : (W.setCell p u).ownsRow base e size v k xs := by
  refine ⟨h.1, ?_⟩
  rcases h.2 with h0 | ⟨g, cap, cur, rfl, h2, h3, h4⟩
  · exact .inl h0
  · refine .inr ⟨g, cap, cur, rfl, h2, ?_, h4⟩
    rw [Below.heap_setCell W p u g (fun e => hne (by rw [← e]; rfl))]
    exact h3

end Go.Proofs.Ytdnajdobmlgmiaa

namespace Go.Proofs.Ytdnajdobmlgmiaa
open Go.RowKit
set_option linter.unusedVariables false

/-- What TableAdd and TableLimit answer. -/
def addV (fs : List Fd) (max : Int) (f : Fd) : List Fd × Int := if tOk fs max && fOk f then (fitL max (⟨f.n, f.v, false⟩ :: fs), max) else ([], 0)
def limV (fs : List Fd) (max most : Int) : List Fd × Int := if tOk fs max && (decide (0 ≤ most) && decide (most ≤ 64)) then (fitL most fs, most) else ([], 0)
theorem tOk_max {fs : List Fd} {max : Int} (h : tOk fs max = true) : 0 ≤ max ∧ max ≤ 64 := by
  unfold tOk at h
  simp at h
  exact ⟨h.2.1.1, h.2.1.2⟩
/-- A table that is answered: new memory. -/
def TabAns (w : World) (r : List Fd × Int) (e : Ending) (w' : World) : Prop := ∃ v, e = .returned (.agg #[v, .int .i64 r.2]) ∧ w'.ownsRow w.heap.size 98 3 v r.1.length (cellsF r.1) ∧ Below w.heap.size w w'

theorem wOk_size {s : ByteArray} (h : wOk (bytesL s) = true) : s.size ≤ 16 := by
  unfold wOk at h
  rw [Bool.and_eq_true] at h
  have := h.2
  rw [bytesL_length] at this
  simpa using this
theorem fOk_size {f : Fd} (h : fOk f = true) : f.n.size ≤ 16 ∧ f.v.size ≤ 16 := by
  unfold fOk at h
  rw [Bool.and_eq_true, Bool.and_eq_true] at h
  exact ⟨wOk_size h.1.1, wOk_size h.2⟩
theorem tOk_parts {fs : List Fd} {max : Int} (h : tOk fs max = true) : (∀ f ∈ fs, fOk f = true ∧ f.q = false) ∧ 0 ≤ max ∧ max ≤ 64 ∧ fSum fs ≤ max := by
  unfold tOk at h
  simp only [Bool.and_eq_true, List.all_eq_true, decide_eq_true_eq] at h
  exact ⟨fun f hf => ⟨(h.1 f hf).1, by simpa using (h.1 f hf).2⟩, h.2.1.1, h.2.1.2, h.2.2⟩
theorem tOk_len {fs : List Fd} {max : Int} (h : tOk fs max = true) : fs.length ≤ 16 := by
  have h1 := tOk_parts h
  have h2 := fSum_four fs
  omega
end Go.Proofs.Ytdnajdobmlgmiaa

namespace Go.Proofs.Ytdnajdobmlgmiaa
open Go.RowKit
set_option linter.unusedVariables false

/-- The fixed fields. -/
def fixedL : List Fd := [⟨⟨#[58, 112, 97, 116, 104]⟩, ⟨#[]⟩, false⟩, ⟨⟨#[58, 115, 116, 97, 116, 117, 115]⟩, ⟨#[48]⟩, false⟩, ⟨⟨#[58, 115, 116, 97, 116, 117, 115]⟩, ⟨#[49, 50]⟩, false⟩, ⟨⟨#[107, 105, 110, 100]⟩, ⟨#[116, 101, 120, 116]⟩, false⟩, ⟨⟨#[115, 105, 122, 101]⟩, ⟨#[]⟩, false⟩, ⟨⟨#[116, 101]⟩, ⟨#[116, 114, 97, 105, 108, 101, 114, 115]⟩, false⟩]
theorem own_new (w : World) (base : Nat) (e : TypeId) (size n : Nat) (xs : List Value) (hb : base ≤ w.heap.size) (hn : n ≤ maxLen) (hl : xs.length = n * size) : (w.alloc (.cells xs.toArray e)).ownsRow base e size (.slice (some ⟨w.heap.size, 0, none⟩) n n) n xs :=
  ⟨hl, .inr ⟨w.heap.size, n, xs.toArray, rfl, hb, by show (w.heap.push _)[w.heap.size]? = _; simp, Nat.le_refl _, hn, by simp [hl], by simp [← hl]⟩⟩
theorem five_two {w w1 w2 : World} {B : Nat} {x y : Value} (hb : Below w1.heap.size w1 w2) (h0 : w1.cell? ⟨B, 0, none⟩ = some x) (h1 : w1.cell? ⟨B, 1, none⟩ = some y) : w2.cell? ⟨B, 0, none⟩ = some x ∧ w2.cell? ⟨B, 1, none⟩ = some y :=
  ⟨(hb.cell (p := ⟨B, 0, none⟩) (World.block_lt_of_cell? w1 _ h0)).trans h0, (hb.cell (p := ⟨B, 1, none⟩) (World.block_lt_of_cell? w1 _ h1)).trans h1⟩
/-- What TableAt answers of an ok table. -/
def atV (fs : List Fd) (at' : Int) : Fd × Bool := if 1 ≤ at' ∧ at' ≤ 6 + fs.length then ((fixedL ++ fs).getD (at' - 1).toNat ⟨⟨#[]⟩, ⟨#[]⟩, false⟩, true) else (⟨⟨#[]⟩, ⟨#[]⟩, false⟩, false)
theorem infoF3 : (Try.prog.info? 98).map (·.size) = some 3 := by kernel_rfl
theorem results_cell_tmp {fn : Func} {p q : Tmp} {ty : TypeId} (h : fn.results = #[.cell p ty, .tmp q]) (tmps : Array Value) (w : World) (g : Nat) (cs : Array Value)
    (hp : tmps.getD p undef = .pointer (some ⟨g, 0, none⟩)) (hl : (loadVar ty ⟨g, 0, none⟩).run Try.prog w = .ok (.agg cs) w) :
    (results fn tmps).run Try.prog w = .ok (.tuple #[.agg cs, tmps.getD q undef]) w := by
  have hp' : tmps[p]?.getD undef = .pointer (some ⟨g, 0, none⟩) := by simpa using hp
  simp [results, h, hp', asAddr, hl]
theorem load_fld {w : World} {g : Nat} {x y z : Value} (hg : w.heap[g]? = some (.cells #[x, y, z] 98 (0, 0))) : (loadVar 98 ⟨g, 0, none⟩).run Try.prog w = .ok (.agg #[x, y, z]) w :=
  run_loadVar_row w g 98 98 #[x, y, z] (0, 0) _ hg Try.underlying98 rfl infoF3

/-- What TableAt answers. -/
def tabAt (fs : List Fd) (max at' : Int) : Fd × Bool := if tOk fs max then atV fs at' else (⟨⟨#[]⟩, ⟨#[]⟩, false⟩, false)
end Go.Proofs.Ytdnajdobmlgmiaa

namespace Go.Proofs.Ytdnajdobmlgmiaa
open Go.RowKit
set_option linter.unusedVariables false

/-- The first place, counted from 1 behind k, of a field with this name; 0 if there is none. -/
def nmP (n : ByteArray) : List Fd → Nat → Nat
  | [], _ => 0
  | x :: t, k => if x.n = n then k + 1 else nmP n t (k + 1)
/-- The first place of all of a field. -/
def flP (f : Fd) : List Fd → Nat → Nat
  | [], _ => 0
  | x :: t, k => if x.n = f.n ∧ x.v = f.v then k + 1 else flP f t (k + 1)
/-- What l3Find answers. -/
def findV (fs : List Fd) (f : Fd) : Nat × Bool := if flP f (fixedL ++ fs) 0 = 0 then (nmP f.n (fixedL ++ fs) 0, false) else (flP f (fixedL ++ fs) 0, true)
theorem nmP_le (n : ByteArray) (l : List Fd) (k : Nat) : nmP n l k ≤ k + l.length := by
  induction l generalizing k with
  | nil => simp [nmP]
  | cons x t ih => unfold nmP; have := ih (k + 1); split <;> simp only [List.length_cons] <;> omega
theorem nmP_at {n : ByteArray} {l : List Fd} {k : Nat} (h : k < l.length) : nmP n (l.drop k) k = if l[k].n = n then k + 1 else nmP n (l.drop (k + 1)) (k + 1) := by
  rw [List.drop_eq_getElem_cons h]; rfl
theorem flP_at {f : Fd} {l : List Fd} {k : Nat} (h : k < l.length) : flP f (l.drop k) k = if l[k].n = f.n ∧ l[k].v = f.v then k + 1 else flP f (l.drop (k + 1)) (k + 1) := by
  rw [List.drop_eq_getElem_cons h]; rfl
theorem keep_fld {w1 w2 : World} {B : Nat} {x y z : Value} (hb : Below w1.heap.size w1 w2) (h0 : w1.cell? ⟨B, 0, none⟩ = some x) (h1 : w1.cell? ⟨B, 1, none⟩ = some y) : w2.cell? ⟨B, 0, none⟩ = some x ∧ w2.cell? ⟨B, 1, none⟩ = some y := five_two (w := w1) hb h0 h1

/-- What TableFind answers. -/
def tabFind (fs : List Fd) (max : Int) (f : Fd) : Nat × Bool := if tOk fs max && fOk f then findV fs f else (0, false)
end Go.Proofs.Ytdnajdobmlgmiaa

namespace Go.Proofs.Ytdnajdobmlgmiaa
open Go.RowKit
set_option linter.unusedVariables false

/-- Whether a head is ok. -/
def hOk (fs : List Fd) : Bool := fs.all fOk && decide (fs.length ≤ 6)
theorem hOk_bad {fs : List Fd} {k : Nat} (h : k < fs.length) (hb : fOk fs[k] = false) : hOk fs = false := by
  unfold hOk
  have : fs.all fOk = false := by
    rw [List.all_eq_false]
    exact ⟨fs[k], List.getElem_mem h, by rw [hb]; decide⟩
  rw [this]; rfl
theorem hOk_good {fs : List Fd} (h : ∀ j (hj : j < fs.length), fOk fs[j] = true) : hOk fs = decide (fs.length ≤ 6) := by
  unfold hOk
  have : fs.all fOk = true := by
    rw [List.all_eq_true]
    intro x hx
    obtain ⟨j, hj, rfl⟩ := List.getElem_of_mem hx
    exact h j hj
  rw [this, Bool.true_and]

set_option maxRecDepth 100000 in
set_option maxHeartbeats 1000000 in
theorem specHeadOk (fs : List Fd) (a : Option Addr) (n cap : Nat) (w : World) (hf : Fs w a n cap fs) (hbd : fsBd fs) (hn : n ≤ 1048576) :
    Calls Try.prog 60 #[.slice a n cap] w fun e w' => e = .returned (.bool (hOk fs)) ∧ Below w.heap.size w w' := by
  have HF : Hid (Fs w a n cap fs) := hf
  have HB : Hid (fsBd fs) := hbd
  have hlen := hf.len
  clear hf hbd
  go_enter Try.func60, Try.ntmps60
  go_wp2
  go_loopw [3] (fun i wr => ∃ k : Nat, k ≤ n ∧ i = .int .i64 k ∧ (∀ j (hj : j < fs.length), j < k → fOk fs[j] = true) ∧ Below w.heap.size w wr) (fun i _ => n - (intOf i).toNat)
  case atStart => exact ⟨0, by omega, rfl, (fun j hj h => absurd h (by omega)), Below.refl _ _⟩
  case round =>
    obtain ⟨k, hk, rfl, hall, hbel⟩ := hrel
    have HAL : Hid (∀ j (hj : j < fs.length), j < k → fOk fs[j] = true) := hall
    clear hall
    by_cases hlt : k < n
    · have hlt' : (k : Int) < n := by omega
      have hk0 : (0 : Int) ≤ k := by omega
      have hkl : k < fs.length := by omega
      obtain ⟨g, o, rfl⟩ := HF.out.some' (by omega)
      obtain ⟨c0, c1, c2⟩ := (HF.out.below hbel).at k hkl
      have hfb := HB.out fs[k] (List.getElem_mem hkl)
      have hok := fun w => specFieldOk fs[k] w hfb.1 hfb.2
      cases hfk : fOk fs[k] with
      | false =>
        rw [hfk] at hok
        have HR : Hid (hOk fs = false) := hOk_bad hkl hfk
        obtain ⟨f, hff⟩ : ∃ f, fs[k] = f := ⟨_, rfl⟩
        rw [hff] at c0 c1 c2 hok
        unfold Fd.val at hok
        clear hff hfk hfb
        go_wp2_with (go_at_call 62; refine (hok _).mono ?_; clear hok; rintro e w1 ⟨rfl, hb1⟩)
        go_ret
        exact ⟨by rw [HR.out]; rfl, hbel.trans (hb1.mono hbel.size)⟩
      | true =>
        rw [hfk] at hok
        have HK : Hid (fOk fs[k] = true) := hfk
        obtain ⟨f, hff⟩ : ∃ f, fs[k] = f := ⟨_, rfl⟩
        rw [hff] at c0 c1 c2 hok
        unfold Fd.val at hok
        clear hff hfk hfb
        go_wp2_with (go_at_call 62; refine (hok _).mono ?_; clear hok; rintro e w1 ⟨rfl, hb1⟩)
        go_roundw
        case rel =>
          refine ⟨k + 1, by omega, by go_num, ?_, hbel.trans (hb1.mono hbel.size)⟩
          intro j hj hjk
          by_cases e : j = k
          · subst e; exact HK.out
          · exact HAL.out j hj (by omega)
        case measure => simp [intOf]; omega
    · have HR : Hid (hOk fs = decide (n ≤ 6)) := by
        show hOk fs = decide (n ≤ 6)
        rw [hOk_good (fun j hj => HAL.out j hj (by omega)), hlen]
      go_wp2
      go_ret
      exact ⟨ret_bool' (by rw [HR.out]; first | rfl | (simp; omega) | simp), hbel⟩

/-- What a head has of a name. -/
def getH (fs : List Fd) (nm : ByteArray) : ByteArray × Bool := if hOk fs then (match fs.find? (fun f => f.n.toList == nm.toList) with | some f => (f.v, true) | none => (⟨#[]⟩, false)) else (⟨#[]⟩, false)
/-- A name in bytes; a field in bytes, and the fields of the table behind it; a head. -/
def nameB (p : Nat) (bits : Int) (f : Fd) : ByteArray := if 0 < p then numS p bits 1 else numS 0 bits 1 ++ wrV f.n
def wrF (fs : List Fd) (max : Int) (f : Fd) : List Fd × ByteArray :=
  if f.q then (fs, nameB (findV fs f).1 4 f ++ wrV f.v)
  else if (findV fs f).2 then (fs, numS (findV fs f).1 7 1)
  else (fitL max (⟨f.n, f.v, false⟩ :: fs), nameB (findV fs f).1 6 f ++ wrV f.v)
def wrH : List Fd → Int → List Fd → List Fd × ByteArray
  | fs, _, [] => (fs, ⟨#[]⟩)
  | fs, max, f :: t => ((wrH (wrF fs max f).1 max t).1, (wrF fs max f).2 ++ (wrH (wrF fs max f).1 max t).2)
end Go.Proofs.Ytdnajdobmlgmiaa

namespace Go.Proofs.Ytdnajdobmlgmiaa
open Go.RowKit
set_option linter.unusedVariables false

theorem keepc {w1 w2 : World} {p : Addr} {v : Value} (hb : Below w1.heap.size w1 w2) (h : w1.cell? p = some v) : w2.cell? p = some v := (hb.cell (World.block_lt_of_cell? w1 _ h)).trans h
theorem bt' {w a b : World} (h1 : Below w.heap.size w a) (h2 : Below a.heap.size a b) : Below w.heap.size w b := h1.trans (h2.mono h1.size)
theorem wabs {p : Program} {c : Code} {Q : Exit → Act → World → Prop} {a : Act} {w : World} (P : World → Prop) (h : P w) (k : ∀ W, P W → Code.wp p c Q a W) : Code.wp p c Q a w := k w h
theorem wabsE {K : Act → World → Prop} {Q : Exit → Act → World → Prop} {a : Act} {w : World} (P : World → Prop) (h : P w) (k : ∀ W, P W → Exit.then K Q Exit.normal a W) : Exit.then K Q Exit.normal a w := k w h
theorem row3c {W : World} {B : Nat} {a b c : Value} {t : TypeId} (h : W.heap[B]? = some (.cells #[a, b, c] t (0, 0))) : W.cell? ⟨B, 0, none⟩ = some a ∧ W.cell? ⟨B, 1, none⟩ = some b ∧ W.cell? ⟨B, 2, none⟩ = some c := ⟨cell_of_row _ _ 0 _ _ _ h, cell_of_row _ _ 1 _ _ _ h, cell_of_row _ _ 2 _ _ _ h⟩
theorem row2c {W : World} {B : Nat} {a b : Value} {t : TypeId} (h : W.heap[B]? = some (.cells #[a, b] t (0, 0))) : W.cell? ⟨B, 0, none⟩ = some a ∧ W.cell? ⟨B, 1, none⟩ = some b := ⟨cell_of_row _ _ 0 _ _ _ h, cell_of_row _ _ 1 _ _ _ h⟩
/-- Whether fields are the same. -/
def eqF (x y : Fd) : Bool := (x.n.toList == y.n.toList) && ((x.v.toList == y.v.toList) && (x.q == y.q))
def eqFs : List Fd → List Fd → Bool
  | [], [] => true
  | x :: s, y :: t => eqF x y && eqFs s t
  | _, _ => false
theorem eqB_iff {a b : ByteArray} : (a.toList == b.toList) = true ↔ a = b := by
  constructor
  · intro h
    by_cases e : a = b
    · exact e
    · rw [neF e] at h; cases h
  · exact eqT
theorem eqF_iff {x y : Fd} : eqF x y = true ↔ x = y := by
  unfold eqF
  rw [Bool.and_eq_true, Bool.and_eq_true, eqB_iff, eqB_iff]
  cases x; cases y
  simp
theorem eqFs_iff {s t : List Fd} : eqFs s t = true ↔ s = t := by
  induction s generalizing t with
  | nil => cases t <;> simp [eqFs]
  | cons x s ih =>
    cases t with
    | nil => simp [eqFs]
    | cons y t => simp only [eqFs, Bool.and_eq_true, eqF_iff, ih, List.cons.injEq]
theorem eqFs_self (s : List Fd) : eqFs s s = true := eqFs_iff.2 rfl
theorem eqFs_len {s t : List Fd} (h : s.length ≠ t.length) : eqFs s t = false := by
  cases e : eqFs s t with
  | false => rfl
  | true => rw [eqFs_iff.1 e] at h; exact absurd rfl h
theorem eqFs_at {s t : List Fd} {k : Nat} (h : k < s.length) (h' : k < t.length) : eqFs (s.drop k) (t.drop k) = (eqF s[k] t[k] && eqFs (s.drop (k + 1)) (t.drop (k + 1))) := by
  rw [List.drop_eq_getElem_cons h, List.drop_eq_getElem_cons h']; rfl

theorem eqFld (x y : Fd) (w : World) : (Op.equalIn 10000 98 (.agg #[.string x.n, .string x.v, .bool x.q]) (.agg #[.string y.n, .string y.v, .bool y.q])).run Try.prog w = .ok (eqF x y) w := by
  have hS : Try.prog.underlying 98 = some (.struct (Try.prog.fieldsOf 98)) := by kernel_rfl
  have hp : Try.prog.stoodInHeld 98 = false := by kernel_rfl
  rw [show (10000 : Nat) = 9999 + 1 from rfl, run_equalIn_agg w 9999 98 _ _ hS hp]
  simp only [Program.fieldsOf, Try.underlying98]
  unfold eqF
  go_simp
  by_cases h1 : x.n.toList = y.n.toList <;> by_cases h2 : x.v.toList = y.v.toList <;> by_cases h3 : x.q = y.q <;> simp [h1, h2, h3]

end Go.Proofs.Ytdnajdobmlgmiaa
