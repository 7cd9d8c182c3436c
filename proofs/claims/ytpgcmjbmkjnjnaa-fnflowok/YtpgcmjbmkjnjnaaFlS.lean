import Derived.Test.YtpgcmjbmkjnjnaaFlM
import Derived.Test.YtpgcmjbmkjnjnaaFL0
import Derived.Laws.Rows
import Derived.Deep.WholeRow
import Derived.Deep.DeepCutAuto
namespace Go.Proofs.Ytpgcmjbmkjnjnaa
open Go.RowKit
set_option linter.unusedVariables false

theorem infoFw2 : (Try.prog.info? 24).map (·.size) = some 2 := by kernel_rfl
theorem load_fw {w : World} {g : Nat} {x y : Value} (hg : w.heap[g]? = some (.cells #[x, y] 24 (0, 0))) : (loadVar 24 ⟨g, 0, none⟩).run Try.prog w = .ok (.agg #[x, y]) w :=
  run_loadVar_row w g 24 24 #[x, y] (0, 0) _ hg Try.underlying24 rfl infoFw2
theorem results_ctW {fn : Func} {p q : Tmp} {ty : TypeId} (h : fn.results = #[.cell p ty, .tmp q]) (tmps : Array Value) (w : World) (g : Nat) (cs : Array Value)
    (hp : tmps.getD p undef = .pointer (some ⟨g, 0, none⟩)) (hl : (loadVar ty ⟨g, 0, none⟩).run Try.prog w = .ok (.agg cs) w) :
    (results fn tmps).run Try.prog w = .ok (.tuple #[.agg cs, tmps.getD q undef]) w := by
  have hp' : tmps[p]?.getD undef = .pointer (some ⟨g, 0, none⟩) := by simpa using hp
  simp [results, h, hp', asAddr, hl]
theorem results_cW {fn : Func} {p : Tmp} {ty : TypeId} (h : fn.results = #[.cell p ty]) (tmps : Array Value) (w : World) (g : Nat) (cs : Array Value)
    (hp : tmps.getD p undef = .pointer (some ⟨g, 0, none⟩)) (hl : (loadVar ty ⟨g, 0, none⟩).run Try.prog w = .ok (.agg cs) w) :
    (results fn tmps).run Try.prog w = .ok (.agg cs) w := by
  have hp' : tmps[p]?.getD undef = .pointer (some ⟨g, 0, none⟩) := by simpa using hp
  simp [results, h, hp', asAddr, hl]
theorem row2w {W : World} {B : Nat} {a b : Value} {t : TypeId} (h : W.heap[B]? = some (.cells #[a, b] t (0, 0))) : W.cell? ⟨B, 0, none⟩ = some a ∧ W.cell? ⟨B, 1, none⟩ = some b ∧ W.frozen? ⟨B, 0, none⟩ = false ∧ W.frozen? ⟨B, 1, none⟩ = false := by
  refine ⟨?_, ?_, ?_, ?_⟩ <;> simp [World.cell?, World.frozen?, h]
theorem setc_heapW {W : World} {B : Nat} {cs : Array Value} {t : TypeId} (o : Nat) (v : Value) (h : W.heap[B]? = some (.cells cs t (0, 0))) : (W.setCell ⟨B, o, none⟩ v).heap[B]? = some (.cells (cs.setIfInBounds o v) t (0, 0)) := by
  obtain ⟨hlt, hk⟩ := Array.getElem?_eq_some_iff.1 h
  show (W.heap.modify B _)[B]? = _
  rw [Array.getElem?_eq_getElem (by rw [Array.size_modify]; exact hlt), Array.getElem_modify_self, hk]
  rfl
theorem setW0 {W : World} {B : Nat} {a b : Value} {t : TypeId} (y : Value) (h : W.heap[B]? = some (.cells #[a, b] t (0, 0))) : (W.setCell ⟨B, 0, none⟩ y).heap[B]? = some (.cells #[y, b] t (0, 0)) := by
  have := setc_heapW 0 y h
  simpa using this
theorem setW1 {W : World} {B : Nat} {a b : Value} {t : TypeId} (y : Value) (h : W.heap[B]? = some (.cells #[a, b] t (0, 0))) : (W.setCell ⟨B, 1, none⟩ y).heap[B]? = some (.cells #[a, y] t (0, 0)) := by
  have := setc_heapW 1 y h
  simpa using this
theorem set2W {W : World} {B : Nat} {a b : Value} {t : TypeId} (x y : Value) (h : W.heap[B]? = some (.cells #[a, b] t (0, 0))) : ((W.setCell ⟨B, 0, none⟩ x).setCell ⟨B, 1, none⟩ y).heap[B]? = some (.cells #[x, y] t (0, 0)) := setW1 y (setW0 x h)
theorem setWo {W : World} {B C o : Nat} {x : Obj} (y : Value) (h : W.heap[C]? = some x) (hne : C ≠ B) : (W.setCell ⟨B, o, none⟩ y).heap[C]? = some x := (Below.heap_setCell W ⟨B, o, none⟩ y C hne).trans h
theorem belW1 {n : Nat} {w W : World} {B o : Nat} (h : Below n w W) (hB : n ≤ B) (x : Value) : Below n w (W.setCell ⟨B, o, none⟩ x) := h.setCell (p := ⟨B, o, none⟩) hB _
theorem wabsW {p : Program} {c : Code} {Q : Exit → Act → World → Prop} {a : Act} {w : World} (P : World → Prop) (h : P w) (k : ∀ W, P W → Code.wp p c Q a W) : Code.wp p c Q a w := k w h

set_option maxRecDepth 100000 in
set_option maxHeartbeats 1000000 in
theorem specFlowOk (f : Fw) (w : World) :
    Calls Try.prog 17 #[f.val] w fun e w' => e = .returned (.bool (flOk f)) ∧ Below w.heap.size w w' := by
  obtain ⟨s, r⟩ := f
  unfold Fw.val flOk
  dsimp only
  by_cases h1 : 0 ≤ s ∧ s ≤ 31
  · have c1 := fun w => l6In_yes s 0 31 w h1
    rw [decide_eq_true h1]
    by_cases h2 : 0 ≤ r ∧ r ≤ 31
    · have c2 := fun w => l6In_yes r 0 31 w h2
      rw [decide_eq_true h2]
      clear h1 h2
      go_enter Try.func17, Try.ntmps17
      go_wp2_with (first | (go_at_call 34; refine (c1 _).mono ?_; clear c1; rintro e w' ⟨rfl, rfl⟩) | (go_at_call 34; refine (c2 _).mono ?_; clear c2; rintro e w' ⟨rfl, rfl⟩))
      go_ret
      exact ⟨rfl, (Below.refl _ _).alloc (Nat.le_refl _) _⟩
    · have c2 := fun w => l6In_no r 0 31 w h2
      rw [decide_eq_false h2]
      clear h1 h2
      go_enter Try.func17, Try.ntmps17
      go_wp2_with (first | (go_at_call 34; refine (c1 _).mono ?_; clear c1; rintro e w' ⟨rfl, rfl⟩) | (go_at_call 34; refine (c2 _).mono ?_; clear c2; rintro e w' ⟨rfl, rfl⟩))
      go_ret
      exact ⟨rfl, (Below.refl _ _).alloc (Nat.le_refl _) _⟩
  · have c1 := fun w => l6In_no s 0 31 w h1
    rw [decide_eq_false h1]
    clear h1
    go_enter Try.func17, Try.ntmps17
    go_wp2_with (go_at_call 34; refine (c1 _).mono ?_; clear c1; rintro e w' ⟨rfl, rfl⟩)
    go_ret
    exact ⟨rfl, (Below.refl _ _).alloc (Nat.le_refl _) _⟩

set_option maxRecDepth 100000 in
set_option maxHeartbeats 1000000 in
theorem specFlowSend (f : Fw) (n : Int) (w : World) :
    Calls Try.prog 15 #[f.val, .int .i64 n] w fun e w' => e = .returned (.tuple #[(flSend f n).1.val, .bool (flSend f n).2]) ∧ Below w.heap.size w w' := by
  obtain ⟨s, r⟩ := f
  have hok := fun w => specFlowOk ⟨s, r⟩ w
  unfold Fw.val at hok ⊢
  have hA : Below w.heap.size w (w.alloc (.cells #[.int .i64 s, .int .i64 r] 24)) := (Below.refl _ _).alloc (Nat.le_refl _) _
  have hB : Below w.heap.size w ((w.alloc (.cells #[.int .i64 s, .int .i64 r] 24)).alloc (.cells #[.int .i64 0, .int .i64 0] 24)) := hA.alloc (by rw [World.size_alloc]; omega) _
  have hF : ((w.alloc (.cells #[.int .i64 s, .int .i64 r] 24)).alloc (.cells #[.int .i64 0, .int .i64 0] 24)).heap[w.heap.size]? = some (.cells #[.int .i64 s, .int .i64 r] 24 (0, 0)) := blkF ((Below.refl _ _).alloc (Nat.le_refl _) _) (heap_alloc_last w _)
  have hR : ((w.alloc (.cells #[.int .i64 s, .int .i64 r] 24)).alloc (.cells #[.int .i64 0, .int .i64 0] 24)).heap[w.heap.size + 1]? = some (.cells #[.int .i64 0, .int .i64 0] 24 (0, 0)) := by
    have h := heap_alloc_last (w.alloc (.cells #[.int .i64 s, .int .i64 r] 24)) (.cells #[.int .i64 0, .int .i64 0] 24)
    rw [World.size_alloc] at h
    exact h
  cases ho : flOk ⟨s, r⟩ with
  | false =>
    rw [ho] at hok
    rw [flSend_no (by rw [ho]; simp)]
    clear ho hA
    unfold zFw
    dsimp only
    go_enter Try.func15, Try.ntmps15
    go_wp2_with fail
    refine (hok _).mono ?_
    rintro e w1 ⟨rfl, hb⟩
    replace hF := blkF hb hF
    replace hR := blkF hb hR
    replace hB := btF hB hb
    obtain ⟨p0, p1, p2, p3⟩ := row2w hF
    obtain ⟨q0, q1, q2, q3⟩ := row2w hR
    go_wp2
    exact bodyPost_ret (results_ctW rfl _ _ (w.heap.size + 1) #[.int .i64 0, .int .i64 0] rfl (load_fw (set2W _ _ hR))) rfl ⟨rfl, belW1 (belW1 hB (by omega) _) (by omega) _⟩
  | true =>
    rw [ho] at hok
    have hbd := flOk_iff.1 ho
    dsimp only at hbd
    by_cases hn : 0 ≤ n ∧ n ≤ s
    · rw [flSend_yes ho hn.1 hn.2]
      have hin := fun w => l6In_yes n 0 (s) w hn
      obtain ⟨⟨hs0, hs1⟩, hr0, hr1⟩ := hbd
      obtain ⟨hn0, hn1⟩ := hn
      have hw1 : IntKind.i64.wrap (s - n) = s - n := by rw [IntKind.wrap_i64]; omega
      clear ho hA
      dsimp only
      go_enter Try.func15, Try.ntmps15
      go_wp2_with fail
      refine (hok _).mono ?_
      rintro e w1 ⟨rfl, hb⟩
      replace hF := blkF hb hF
      replace hR := blkF hb hR
      replace hB := btF hB hb
      clear hok hb
      obtain ⟨p0, p1, p2, p3⟩ := row2w hF
      go_upto_region 3 with (go_at_call 34; refine (hin _).mono ?_; rintro e w2 ⟨rfl, rfl⟩)
      have hF2 := setW0 (.int .i64 (s - n)) hF
      have hR2 := setWo (o := 0) (.int .i64 (s - n)) hR (show w.heap.size + 1 ≠ w.heap.size by omega)
      have hB2 := belW1 (o := 0) hB (Nat.le_refl _) (.int .i64 (s - n))
      clear hF hR hB hin
      go_upto_region 4 with fail
      refine wabsW (fun V => V.heap[w.heap.size]? = some (.cells #[.int .i64 (s - n), .int .i64 r] 24 (0, 0)) ∧ V.heap[w.heap.size + 1]? = some (.cells #[.int .i64 0, .int .i64 0] 24 (0, 0)) ∧ Below w.heap.size w V) ⟨hF2, hR2, hB2⟩ ?_
      clear hF2 hR2 hB2 p0 p1 p2 p3
      rintro V ⟨hF, hR, hB⟩
      obtain ⟨p0, p1, p2, p3⟩ := row2w hF
      obtain ⟨q0, q1, q2, q3⟩ := row2w hR
      go_wp2
      exact bodyPost_ret (results_ctW rfl _ _ (w.heap.size + 1) #[.int .i64 (s - n), .int .i64 r] rfl (load_fw (set2W _ _ hR))) rfl ⟨rfl, belW1 (belW1 hB (by omega) _) (by omega) _⟩
    · have hin := fun w => l6In_no n 0 (s) w hn
      obtain ⟨⟨hs0, hs1⟩, hr0, hr1⟩ := hbd
      rw [flSend_no (fun h => hn h.2)]
      clear ho hA hn
      unfold zFw
      dsimp only
      go_enter Try.func15, Try.ntmps15
      go_wp2_with fail
      refine (hok _).mono ?_
      rintro e w1 ⟨rfl, hb⟩
      replace hF := blkF hb hF
      replace hR := blkF hb hR
      replace hB := btF hB hb
      obtain ⟨p0, p1, p2, p3⟩ := row2w hF
      obtain ⟨q0, q1, q2, q3⟩ := row2w hR
      go_wp2_with (go_at_call 34; refine (hin _).mono ?_; rintro e w2 ⟨rfl, rfl⟩)
      exact bodyPost_ret (results_ctW rfl _ _ (w.heap.size + 1) #[.int .i64 0, .int .i64 0] rfl (load_fw (set2W _ _ hR))) rfl ⟨rfl, belW1 (belW1 hB (by omega) _) (by omega) _⟩

set_option maxRecDepth 100000 in
set_option maxHeartbeats 1000000 in
theorem specFlowMore (f : Fw) (n : Int) (w : World) :
    Calls Try.prog 20 #[f.val, .int .i64 n] w fun e w' => e = .returned (.tuple #[(flMore f n).1.val, .bool (flMore f n).2]) ∧ Below w.heap.size w w' := by
  obtain ⟨s, r⟩ := f
  have hok := fun w => specFlowOk ⟨s, r⟩ w
  unfold Fw.val at hok ⊢
  have hA : Below w.heap.size w (w.alloc (.cells #[.int .i64 s, .int .i64 r] 24)) := (Below.refl _ _).alloc (Nat.le_refl _) _
  have hB : Below w.heap.size w ((w.alloc (.cells #[.int .i64 s, .int .i64 r] 24)).alloc (.cells #[.int .i64 0, .int .i64 0] 24)) := hA.alloc (by rw [World.size_alloc]; omega) _
  have hF : ((w.alloc (.cells #[.int .i64 s, .int .i64 r] 24)).alloc (.cells #[.int .i64 0, .int .i64 0] 24)).heap[w.heap.size]? = some (.cells #[.int .i64 s, .int .i64 r] 24 (0, 0)) := blkF ((Below.refl _ _).alloc (Nat.le_refl _) _) (heap_alloc_last w _)
  have hR : ((w.alloc (.cells #[.int .i64 s, .int .i64 r] 24)).alloc (.cells #[.int .i64 0, .int .i64 0] 24)).heap[w.heap.size + 1]? = some (.cells #[.int .i64 0, .int .i64 0] 24 (0, 0)) := by
    have h := heap_alloc_last (w.alloc (.cells #[.int .i64 s, .int .i64 r] 24)) (.cells #[.int .i64 0, .int .i64 0] 24)
    rw [World.size_alloc] at h
    exact h
  cases ho : flOk ⟨s, r⟩ with
  | false =>
    rw [ho] at hok
    rw [flMore_no (by rw [ho]; simp)]
    clear ho hA
    unfold zFw
    dsimp only
    go_enter Try.func20, Try.ntmps20
    go_wp2_with fail
    refine (hok _).mono ?_
    rintro e w1 ⟨rfl, hb⟩
    replace hF := blkF hb hF
    replace hR := blkF hb hR
    replace hB := btF hB hb
    obtain ⟨p0, p1, p2, p3⟩ := row2w hF
    obtain ⟨q0, q1, q2, q3⟩ := row2w hR
    go_wp2
    exact bodyPost_ret (results_ctW rfl _ _ (w.heap.size + 1) #[.int .i64 0, .int .i64 0] rfl (load_fw (set2W _ _ hR))) rfl ⟨rfl, belW1 (belW1 hB (by omega) _) (by omega) _⟩
  | true =>
    rw [ho] at hok
    have hbd := flOk_iff.1 ho
    dsimp only at hbd
    by_cases hn : 1 ≤ n ∧ n ≤ 31 - s
    · rw [flMore_yes ho hn.1 hn.2]
      have hin := fun w => l6In_yes n 1 (31 - s) w hn
      obtain ⟨⟨hs0, hs1⟩, hr0, hr1⟩ := hbd
      obtain ⟨hn0, hn1⟩ := hn
      have hw1 : IntKind.i64.wrap (s + n) = s + n := by rw [IntKind.wrap_i64]; omega
      clear ho hA
      dsimp only
      go_enter Try.func20, Try.ntmps20
      go_wp2_with fail
      refine (hok _).mono ?_
      rintro e w1 ⟨rfl, hb⟩
      replace hF := blkF hb hF
      replace hR := blkF hb hR
      replace hB := btF hB hb
      clear hok hb
      obtain ⟨p0, p1, p2, p3⟩ := row2w hF
      go_upto_region 3 with (go_at_call 34; refine (hin _).mono ?_; rintro e w2 ⟨rfl, rfl⟩)
      have hF2 := setW0 (.int .i64 (s + n)) hF
      have hR2 := setWo (o := 0) (.int .i64 (s + n)) hR (show w.heap.size + 1 ≠ w.heap.size by omega)
      have hB2 := belW1 (o := 0) hB (Nat.le_refl _) (.int .i64 (s + n))
      clear hF hR hB hin
      go_upto_region 4 with fail
      refine wabsW (fun V => V.heap[w.heap.size]? = some (.cells #[.int .i64 (s + n), .int .i64 r] 24 (0, 0)) ∧ V.heap[w.heap.size + 1]? = some (.cells #[.int .i64 0, .int .i64 0] 24 (0, 0)) ∧ Below w.heap.size w V) ⟨hF2, hR2, hB2⟩ ?_
      clear hF2 hR2 hB2 p0 p1 p2 p3
      rintro V ⟨hF, hR, hB⟩
      obtain ⟨p0, p1, p2, p3⟩ := row2w hF
      obtain ⟨q0, q1, q2, q3⟩ := row2w hR
      go_wp2
      exact bodyPost_ret (results_ctW rfl _ _ (w.heap.size + 1) #[.int .i64 (s + n), .int .i64 r] rfl (load_fw (set2W _ _ hR))) rfl ⟨rfl, belW1 (belW1 hB (by omega) _) (by omega) _⟩
    · have hin := fun w => l6In_no n 1 (31 - s) w hn
      obtain ⟨⟨hs0, hs1⟩, hr0, hr1⟩ := hbd
      rw [flMore_no (fun h => hn h.2)]
      clear ho hA hn
      unfold zFw
      dsimp only
      go_enter Try.func20, Try.ntmps20
      go_wp2_with fail
      refine (hok _).mono ?_
      rintro e w1 ⟨rfl, hb⟩
      replace hF := blkF hb hF
      replace hR := blkF hb hR
      replace hB := btF hB hb
      obtain ⟨p0, p1, p2, p3⟩ := row2w hF
      obtain ⟨q0, q1, q2, q3⟩ := row2w hR
      go_wp2_with (go_at_call 34; refine (hin _).mono ?_; rintro e w2 ⟨rfl, rfl⟩)
      exact bodyPost_ret (results_ctW rfl _ _ (w.heap.size + 1) #[.int .i64 0, .int .i64 0] rfl (load_fw (set2W _ _ hR))) rfl ⟨rfl, belW1 (belW1 hB (by omega) _) (by omega) _⟩

set_option maxRecDepth 100000 in
set_option maxHeartbeats 1000000 in
theorem specFlowGot (f : Fw) (n : Int) (w : World) :
    Calls Try.prog 23 #[f.val, .int .i64 n] w fun e w' => e = .returned (.tuple #[(flGot f n).1.val, .bool (flGot f n).2]) ∧ Below w.heap.size w w' := by
  obtain ⟨s, r⟩ := f
  have hok := fun w => specFlowOk ⟨s, r⟩ w
  unfold Fw.val at hok ⊢
  have hA : Below w.heap.size w (w.alloc (.cells #[.int .i64 s, .int .i64 r] 24)) := (Below.refl _ _).alloc (Nat.le_refl _) _
  have hB : Below w.heap.size w ((w.alloc (.cells #[.int .i64 s, .int .i64 r] 24)).alloc (.cells #[.int .i64 0, .int .i64 0] 24)) := hA.alloc (by rw [World.size_alloc]; omega) _
  have hF : ((w.alloc (.cells #[.int .i64 s, .int .i64 r] 24)).alloc (.cells #[.int .i64 0, .int .i64 0] 24)).heap[w.heap.size]? = some (.cells #[.int .i64 s, .int .i64 r] 24 (0, 0)) := blkF ((Below.refl _ _).alloc (Nat.le_refl _) _) (heap_alloc_last w _)
  have hR : ((w.alloc (.cells #[.int .i64 s, .int .i64 r] 24)).alloc (.cells #[.int .i64 0, .int .i64 0] 24)).heap[w.heap.size + 1]? = some (.cells #[.int .i64 0, .int .i64 0] 24 (0, 0)) := by
    have h := heap_alloc_last (w.alloc (.cells #[.int .i64 s, .int .i64 r] 24)) (.cells #[.int .i64 0, .int .i64 0] 24)
    rw [World.size_alloc] at h
    exact h
  cases ho : flOk ⟨s, r⟩ with
  | false =>
    rw [ho] at hok
    rw [flGot_no (by rw [ho]; simp)]
    clear ho hA
    unfold zFw
    dsimp only
    go_enter Try.func23, Try.ntmps23
    go_wp2_with fail
    refine (hok _).mono ?_
    rintro e w1 ⟨rfl, hb⟩
    replace hF := blkF hb hF
    replace hR := blkF hb hR
    replace hB := btF hB hb
    obtain ⟨p0, p1, p2, p3⟩ := row2w hF
    obtain ⟨q0, q1, q2, q3⟩ := row2w hR
    go_wp2
    exact bodyPost_ret (results_ctW rfl _ _ (w.heap.size + 1) #[.int .i64 0, .int .i64 0] rfl (load_fw (set2W _ _ hR))) rfl ⟨rfl, belW1 (belW1 hB (by omega) _) (by omega) _⟩
  | true =>
    rw [ho] at hok
    have hbd := flOk_iff.1 ho
    dsimp only at hbd
    by_cases hn : 0 ≤ n ∧ n ≤ r
    · rw [flGot_yes ho hn.1 hn.2]
      have hin := fun w => l6In_yes n 0 (r) w hn
      obtain ⟨⟨hs0, hs1⟩, hr0, hr1⟩ := hbd
      obtain ⟨hn0, hn1⟩ := hn
      have hw1 : IntKind.i64.wrap (r - n) = r - n := by rw [IntKind.wrap_i64]; omega
      clear ho hA
      dsimp only
      go_enter Try.func23, Try.ntmps23
      go_wp2_with fail
      refine (hok _).mono ?_
      rintro e w1 ⟨rfl, hb⟩
      replace hF := blkF hb hF
      replace hR := blkF hb hR
      replace hB := btF hB hb
      clear hok hb
      obtain ⟨p0, p1, p2, p3⟩ := row2w hF
      go_upto_region 3 with (go_at_call 34; refine (hin _).mono ?_; rintro e w2 ⟨rfl, rfl⟩)
      have hF2 := setW1 (.int .i64 (r - n)) hF
      have hR2 := setWo (o := 1) (.int .i64 (r - n)) hR (show w.heap.size + 1 ≠ w.heap.size by omega)
      have hB2 := belW1 (o := 1) hB (Nat.le_refl _) (.int .i64 (r - n))
      clear hF hR hB hin
      go_upto_region 4 with fail
      refine wabsW (fun V => V.heap[w.heap.size]? = some (.cells #[.int .i64 s, .int .i64 (r - n)] 24 (0, 0)) ∧ V.heap[w.heap.size + 1]? = some (.cells #[.int .i64 0, .int .i64 0] 24 (0, 0)) ∧ Below w.heap.size w V) ⟨hF2, hR2, hB2⟩ ?_
      clear hF2 hR2 hB2 p0 p1 p2 p3
      rintro V ⟨hF, hR, hB⟩
      obtain ⟨p0, p1, p2, p3⟩ := row2w hF
      obtain ⟨q0, q1, q2, q3⟩ := row2w hR
      go_wp2
      exact bodyPost_ret (results_ctW rfl _ _ (w.heap.size + 1) #[.int .i64 s, .int .i64 (r - n)] rfl (load_fw (set2W _ _ hR))) rfl ⟨rfl, belW1 (belW1 hB (by omega) _) (by omega) _⟩
    · have hin := fun w => l6In_no n 0 (r) w hn
      obtain ⟨⟨hs0, hs1⟩, hr0, hr1⟩ := hbd
      rw [flGot_no (fun h => hn h.2)]
      clear ho hA hn
      unfold zFw
      dsimp only
      go_enter Try.func23, Try.ntmps23
      go_wp2_with fail
      refine (hok _).mono ?_
      rintro e w1 ⟨rfl, hb⟩
      replace hF := blkF hb hF
      replace hR := blkF hb hR
      replace hB := btF hB hb
      obtain ⟨p0, p1, p2, p3⟩ := row2w hF
      obtain ⟨q0, q1, q2, q3⟩ := row2w hR
      go_wp2_with (go_at_call 34; refine (hin _).mono ?_; rintro e w2 ⟨rfl, rfl⟩)
      exact bodyPost_ret (results_ctW rfl _ _ (w.heap.size + 1) #[.int .i64 0, .int .i64 0] rfl (load_fw (set2W _ _ hR))) rfl ⟨rfl, belW1 (belW1 hB (by omega) _) (by omega) _⟩

end Go.Proofs.Ytpgcmjbmkjnjnaa
