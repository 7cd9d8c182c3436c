import Derived.Test.YtmegdgkpdonikaaDoorFS2
import Derived.Laws.Rows
import Derived.Deep.WholeRow
namespace Go.Proofs.YtmegdgkpdonikaaDoor
open Go.RowKit
set_option linter.unusedVariables false

theorem four_bytes {s : ByteArray} (h : 4 ≤ s.size) : ∃ x0 x1 x2 x3 r, bytesL s = x0 :: x1 :: x2 :: x3 :: r ∧ (r.length : Int) = s.size - 4 ∧ (∀ h, ((s[0]'h).toNat : Int) = x0) ∧ (∀ h, ((s[1]'h).toNat : Int) = x1) ∧ (∀ h, ((s[2]'h).toNat : Int) = x2) ∧ (∀ h, ((s[3]'h).toNat : Int) = x3) ∧ (0 ≤ x0 ∧ x0 ≤ 255) ∧ (0 ≤ x1 ∧ x1 ≤ 255) ∧ (0 ≤ x2 ∧ x2 ≤ 255) ∧ (0 ≤ x3 ∧ x3 ≤ 255) ∧ ∀ n, s.extract 4 (4 + n) = strOfNums (r.take n) := by
  have hl := bytesL_length s
  have hbd := bytesL_bd s
  match e : bytesL s, hl with
  | [], hl => simp at hl; omega
  | [_], hl => simp at hl; omega
  | [_, _], hl => simp at hl; omega
  | [_, _, _], hl => simp at hl; omega
  | x0 :: x1 :: x2 :: x3 :: r, hl =>
    rw [e] at hbd
    refine ⟨x0, x1, x2, x3, r, rfl, by simp at hl; omega, ?_, ?_, ?_, ?_, hbd _ (by simp), hbd _ (by simp), hbd _ (by simp), hbd _ (by simp), ?_⟩
    · intro h; rw [bytesL_at]; simp [e]
    · intro h; rw [bytesL_at]; simp [e]
    · intro h; rw [bytesL_at]; simp [e]
    · intro h; rw [bytesL_at]; simp [e]
    · intro n
      rw [← strOfNums_bytesL (s.extract 4 (4 + n)), bytesL_extract, e, Nat.add_comm 4 n]
      rfl
theorem frRd_short {s : ByteArray} (h : s.size < 4) : frRd s = (zFr, 0, 0) := by
  have hl := bytesL_length s
  unfold frRd
  match e : bytesL s, hl with
  | [], _ => rfl
  | [_], _ => rfl
  | [_, _], _ => rfl
  | [_, _, _], _ => rfl
  | _ :: _ :: _ :: _ :: _, hl => simp at hl; omega
theorem bcellF {W w1 : World} (hb : Below W.heap.size W w1) : (∀ b o, b < W.heap.size → w1.cell? ⟨b, o, none⟩ = W.cell? ⟨b, o, none⟩) ∧ (∀ b o, b < W.heap.size → w1.frozen? ⟨b, o, none⟩ = W.frozen? ⟨b, o, none⟩) :=
  ⟨fun b o h => hb.cell (p := ⟨b, o, none⟩) h, fun b o h => hb.frozen (p := ⟨b, o, none⟩) h⟩
theorem setc_heapF {W : World} {B : Nat} {cs : Array Value} {t : TypeId} (o : Nat) (v : Value) (h : W.heap[B]? = some (.cells cs t (0, 0))) : (W.setCell ⟨B, o, none⟩ v).heap[B]? = some (.cells (cs.setIfInBounds o v) t (0, 0)) := by
  obtain ⟨hlt, hk⟩ := Array.getElem?_eq_some_iff.1 h
  show (W.heap.modify B _)[B]? = _
  rw [Array.getElem?_eq_getElem (by rw [Array.size_modify]; exact hlt), Array.getElem_modify_self, hk]
  rfl
theorem set4_heap {W : World} {B : Nat} {a b c d : Value} {t : TypeId} (x y z u : Value) (h : W.heap[B]? = some (.cells #[a, b, c, d] t (0, 0))) : ((((W.setCell ⟨B, 0, none⟩ x).setCell ⟨B, 1, none⟩ y).setCell ⟨B, 2, none⟩ z).setCell ⟨B, 3, none⟩ u).heap[B]? = some (.cells #[x, y, z, u] t (0, 0)) := by
  have := setc_heapF 3 u (setc_heapF 2 z (setc_heapF 1 y (setc_heapF 0 x h)))
  simpa using this
theorem bel4 {n : Nat} {w W : World} {B : Nat} (h : Below n w W) (hB : n ≤ B) (x y z u : Value) : Below n w ((((W.setCell ⟨B, 0, none⟩ x).setCell ⟨B, 1, none⟩ y).setCell ⟨B, 2, none⟩ z).setCell ⟨B, 3, none⟩ u) :=
  (((h.setCell (p := ⟨B, 0, none⟩) hB _).setCell (p := ⟨B, 1, none⟩) hB _).setCell (p := ⟨B, 2, none⟩) hB _).setCell (p := ⟨B, 3, none⟩) hB _
theorem results_c2F {fn : Func} {p q r : Tmp} {ty : TypeId} (h : fn.results = #[.cell p ty, .tmp q, .tmp r]) (tmps : Array Value) (w : World) (g : Nat) (cs : Array Value)
    (hp : tmps.getD p undef = .pointer (some ⟨g, 0, none⟩)) (hl : (loadVar ty ⟨g, 0, none⟩).run Tryd.prog w = .ok (.agg cs) w) :
    (results fn tmps).run Tryd.prog w = .ok (.tuple #[.agg cs, tmps.getD q undef, tmps.getD r undef]) w := by
  have hp' : tmps[p]?.getD undef = .pointer (some ⟨g, 0, none⟩) := by simpa using hp
  simp [results, h, hp', asAddr, hl]
theorem blkTF {W : World} {B : Nat} {o : Obj} (h : W.heap[B]? = some o) (o' : Obj) : (W.alloc o').heap[B]? = some o := by
  have := (Array.getElem?_eq_some_iff.1 h).1
  show (W.heap.push o')[B]? = _
  rw [Array.getElem?_push, if_neg (by omega)]
  exact h
theorem infoFr4 : (Tryd.prog.info? 24).map (·.size) = some 4 := by kernel_rfl
theorem load_fr {w : World} {g : Nat} {x y z u : Value} (hg : w.heap[g]? = some (.cells #[x, y, z, u] 24 (0, 0))) : (loadVar 24 ⟨g, 0, none⟩).run Tryd.prog w = .ok (.agg #[x, y, z, u]) w :=
  run_loadVar_row w g 24 24 #[x, y, z, u] (0, 0) _ hg Tryd.underlying24 rfl infoFr4

set_option maxRecDepth 100000 in
set_option maxHeartbeats 2000000 in
theorem l12Read_any (s : ByteArray) (w : World) (hs : s.size ≤ maxLen) :
    Calls Tryd.prog 26 #[.string s] w fun e w' => e = .returned (.tuple #[(frRd s).1.val, .int .i64 (frRd s).2.1, .int .i64 (frRd s).2.2]) ∧ Below w.heap.size w w' := by
  unfold maxLen at hs
  by_cases h4 : s.size < 4
  · rw [frRd_short h4]
    have h4' : (s.size : Int) < 4 := by omega
    unfold Fr.val zFr
    dsimp only
    go_enter Tryd.func26, Tryd.ntmps26
    go_wp2
    exact bodyPost_ret (v := .tuple #[.agg #[.int .i64 0, .bool false, .int .i64 0, .string ⟨#[]⟩], .int .i64 0, .int .i64 0]) (by simp [results, Tryd.results26, go_sem]) rfl ⟨rfl, by go_grown⟩
  · have h4' : ¬ (s.size : Int) < 4 := by omega
    have q0 : 0 < s.size := by omega
    have q1 : 1 < s.size := by omega
    have q2 : 2 < s.size := by omega
    have q3 : 3 < s.size := by omega
    obtain ⟨x0, x1, x2, x3, r, e, hr, e0, e1, e2, e3, b0, b1, b2, b3, hex⟩ := four_bytes (s := s) (by omega)
    have hrd := rdFr_four x0 x1 x2 x3 r
    rw [← e] at hrd
    have hrd2 : frRd s = _ := hrd
    rw [hrd2]
    have a0 := e0 q0
    have a1 := e1 q1
    have a2 := e2 q2
    have a3 := e3 q3
    clear hrd hrd2 e e0 e1 e2 e3 h4
    by_cases hn : 200 < x0
    · rw [if_pos (.inl hn)]
      unfold Fr.val zFr
      dsimp only
      clear hex a1 a2 a3 b1 b2 b3
      go_enter Tryd.func26, Tryd.ntmps26
      go_wp2
      exact bodyPost_ret (v := .tuple #[.agg #[.int .i64 0, .bool false, .int .i64 0, .string ⟨#[]⟩], .int .i64 0, .int .i64 (-1)]) (by simp [results, Tryd.results26, go_sem]) rfl ⟨rfl, by go_grown⟩
    · by_cases ht : 1 < x2
      · rw [if_pos (.inr ht)]
        unfold Fr.val zFr
        dsimp only
        clear hex a1 a3 b1 b3
        go_enter Tryd.func26, Tryd.ntmps26
        go_wp2
        exact bodyPost_ret (v := .tuple #[.agg #[.int .i64 0, .bool false, .int .i64 0, .string ⟨#[]⟩], .int .i64 0, .int .i64 (-1)]) (by simp [results, Tryd.results26, go_sem]) rfl ⟨rfl, by go_grown⟩
      · rw [if_neg (by omega)]
        by_cases hl : (s.size : Int) < 4 + x0
        · rw [if_pos (by omega)]
          unfold Fr.val zFr
          dsimp only
          clear hex a1 a3 b1 b3
          go_enter Tryd.func26, Tryd.ntmps26
          go_wp2
          exact bodyPost_ret (v := .tuple #[.agg #[.int .i64 0, .bool false, .int .i64 0, .string ⟨#[]⟩], .int .i64 0, .int .i64 0]) (by simp [results, Tryd.results26, go_sem]) rfl ⟨rfl, by go_grown⟩
        · rw [if_neg (by omega)]
          have hy := hex x0.toNat
          have hys : (strOfNums (r.take x0.toNat)).size ≤ 200 := by rw [strOfNums_size, List.length_take]; omega
          obtain ⟨y, hyy⟩ : ∃ y, strOfNums (r.take x0.toNat) = y := ⟨_, rfl⟩
          rw [hyy] at hy hys ⊢
          have hsl : ∀ W : World, (Instr.slice 9 (.string s) (some (.int .i64 4)) (some (.int .i64 (4 + x0))) none).run Tryd.prog W = .ok (.string y) W := fun W => by
            have h := run_slice_string (P := Tryd.prog) W 9 s .i64 .i64 4 (4 + x0) Tryd.underlying9 (by decide) (by omega) (by omega)
            rw [show (4 + x0).toNat = 4 + x0.toNat by omega, show (4 : Int).toNat = 4 from rfl, hy] at h
            exact h
          have hw4 : IntKind.i64.wrap (4 + x0) = 4 + x0 := by rw [IntKind.wrap_i64]; omega
          clear hex hy hyy hr
          have hok := fun w => specFrameOk ⟨x1, x2 == 1, x3, y⟩ w (by show y.size ≤ maxLen; unfold maxLen; omega)
          unfold Fr.val at hok ⊢
          dsimp only at hok
          rcases (by omega : x2 = 0 ∨ x2 = 1) with rfl | rfl
          · rw [show ((0 : Int) == 1) = false from rfl] at hok ⊢
            cases hk : frOk ⟨x1, false, x3, y⟩ with
            | false =>
              rw [hk] at hok
              rw [if_neg (by decide)]
              unfold zFr
              dsimp only
              clear hk
              go_enter Tryd.func26, Tryd.ntmps26
              go_wp2
              go_region
              all_goals
                go_wp2_with (go_at_call 20; refine (hok _).mono ?_; clear hok; rintro e w1 ⟨rfl, hb1⟩; obtain ⟨hc, hf⟩ := bcellF hb1; have hz := hb1.size)
                have hB0 : Below w.heap.size w ((w.alloc (.cells #[.int .i64 0, .bool false, .int .i64 0, .string ⟨#[]⟩] 24)).alloc (.cells #[.int .i64 x1, .bool false, .int .i64 x3, .string y] 24)).drew := (((Below.refl _ _).alloc (Nat.le_refl _) _).alloc (by rw [World.size_alloc]; omega) _).drew
                have hR0 : (((w.alloc (.cells #[.int .i64 0, .bool false, .int .i64 0, .string ⟨#[]⟩] 24)).alloc (.cells #[.int .i64 x1, .bool false, .int .i64 x3, .string y] 24)).drew).heap[w.heap.size]? = some (.cells #[.int .i64 0, .bool false, .int .i64 0, .string ⟨#[]⟩] 24 (0, 0)) := blkTF (heap_alloc_last w _) _
                have hR := (hb1.block _ (Array.getElem?_eq_some_iff.1 hR0).1).trans hR0
                exact bodyPost_ret (results_c2F rfl _ _ w.heap.size #[.int .i64 0, .bool false, .int .i64 0, .string ⟨#[]⟩] rfl (load_fr (set4_heap _ _ _ _ hR))) rfl ⟨rfl, bel4 (btF hB0 hb1) (Nat.le_refl _) _ _ _ _⟩
            | true =>
              rw [hk] at hok
              rw [if_pos rfl]
              dsimp only
              clear hk
              go_enter Tryd.func26, Tryd.ntmps26
              go_wp2
              go_region
              all_goals
                go_wp2_with (go_at_call 20; refine (hok _).mono ?_; clear hok; rintro e w1 ⟨rfl, hb1⟩; obtain ⟨hc, hf⟩ := bcellF hb1; have hz := hb1.size)
                have hB0 : Below w.heap.size w ((w.alloc (.cells #[.int .i64 0, .bool false, .int .i64 0, .string ⟨#[]⟩] 24)).alloc (.cells #[.int .i64 x1, .bool false, .int .i64 x3, .string y] 24)).drew := (((Below.refl _ _).alloc (Nat.le_refl _) _).alloc (by rw [World.size_alloc]; omega) _).drew
                have hR0 : (((w.alloc (.cells #[.int .i64 0, .bool false, .int .i64 0, .string ⟨#[]⟩] 24)).alloc (.cells #[.int .i64 x1, .bool false, .int .i64 x3, .string y] 24)).drew).heap[w.heap.size]? = some (.cells #[.int .i64 0, .bool false, .int .i64 0, .string ⟨#[]⟩] 24 (0, 0)) := blkTF (heap_alloc_last w _) _
                have hR := (hb1.block _ (Array.getElem?_eq_some_iff.1 hR0).1).trans hR0
                exact bodyPost_ret (results_c2F rfl _ _ w.heap.size #[.int .i64 x1, .bool false, .int .i64 x3, .string y] rfl (load_fr (set4_heap _ _ _ _ hR))) rfl ⟨rfl, bel4 (btF hB0 hb1) (Nat.le_refl _) _ _ _ _⟩
          · rw [show ((1 : Int) == 1) = true from rfl] at hok ⊢
            cases hk : frOk ⟨x1, true, x3, y⟩ with
            | false =>
              rw [hk] at hok
              rw [if_neg (by decide)]
              unfold zFr
              dsimp only
              clear hk
              go_enter Tryd.func26, Tryd.ntmps26
              go_wp2
              go_region
              all_goals
                go_wp2_with (go_at_call 20; refine (hok _).mono ?_; clear hok; rintro e w1 ⟨rfl, hb1⟩; obtain ⟨hc, hf⟩ := bcellF hb1; have hz := hb1.size)
                have hB0 : Below w.heap.size w ((w.alloc (.cells #[.int .i64 0, .bool false, .int .i64 0, .string ⟨#[]⟩] 24)).alloc (.cells #[.int .i64 x1, .bool true, .int .i64 x3, .string y] 24)).drew := (((Below.refl _ _).alloc (Nat.le_refl _) _).alloc (by rw [World.size_alloc]; omega) _).drew
                have hR0 : (((w.alloc (.cells #[.int .i64 0, .bool false, .int .i64 0, .string ⟨#[]⟩] 24)).alloc (.cells #[.int .i64 x1, .bool true, .int .i64 x3, .string y] 24)).drew).heap[w.heap.size]? = some (.cells #[.int .i64 0, .bool false, .int .i64 0, .string ⟨#[]⟩] 24 (0, 0)) := blkTF (heap_alloc_last w _) _
                have hR := (hb1.block _ (Array.getElem?_eq_some_iff.1 hR0).1).trans hR0
                exact bodyPost_ret (results_c2F rfl _ _ w.heap.size #[.int .i64 0, .bool false, .int .i64 0, .string ⟨#[]⟩] rfl (load_fr (set4_heap _ _ _ _ hR))) rfl ⟨rfl, bel4 (btF hB0 hb1) (Nat.le_refl _) _ _ _ _⟩
            | true =>
              rw [hk] at hok
              rw [if_pos rfl]
              dsimp only
              clear hk
              go_enter Tryd.func26, Tryd.ntmps26
              go_wp2
              go_region
              all_goals
                go_wp2_with (go_at_call 20; refine (hok _).mono ?_; clear hok; rintro e w1 ⟨rfl, hb1⟩; obtain ⟨hc, hf⟩ := bcellF hb1; have hz := hb1.size)
                have hB0 : Below w.heap.size w ((w.alloc (.cells #[.int .i64 0, .bool false, .int .i64 0, .string ⟨#[]⟩] 24)).alloc (.cells #[.int .i64 x1, .bool true, .int .i64 x3, .string y] 24)).drew := (((Below.refl _ _).alloc (Nat.le_refl _) _).alloc (by rw [World.size_alloc]; omega) _).drew
                have hR0 : (((w.alloc (.cells #[.int .i64 0, .bool false, .int .i64 0, .string ⟨#[]⟩] 24)).alloc (.cells #[.int .i64 x1, .bool true, .int .i64 x3, .string y] 24)).drew).heap[w.heap.size]? = some (.cells #[.int .i64 0, .bool false, .int .i64 0, .string ⟨#[]⟩] 24 (0, 0)) := blkTF (heap_alloc_last w _) _
                have hR := (hb1.block _ (Array.getElem?_eq_some_iff.1 hR0).1).trans hR0
                exact bodyPost_ret (results_c2F rfl _ _ w.heap.size #[.int .i64 x1, .bool true, .int .i64 x3, .string y] rfl (load_fr (set4_heap _ _ _ _ hR))) rfl ⟨rfl, bel4 (btF hB0 hb1) (Nat.le_refl _) _ _ _ _⟩

set_option maxRecDepth 100000 in
set_option maxHeartbeats 1000000 in
theorem specFrameRead (s : ByteArray) (w : World) (hs : s.size ≤ maxLen) :
    Calls Tryd.prog 14 #[.string s] w fun e w' => e = .returned (.tuple #[(frRd s).1.val, .int .i64 (frRd s).2.1, .int .i64 (frRd s).2.2]) ∧ Below w.heap.size w w' := by
  have hB0 : Below w.heap.size w (w.alloc (.cells #[.int .i64 0, .bool false, .int .i64 0, .string ⟨#[]⟩] 24)) := (Below.refl _ _).alloc (Nat.le_refl _) _
  have hR0 : Hid ((w.alloc (.cells #[.int .i64 0, .bool false, .int .i64 0, .string ⟨#[]⟩] 24)).heap[w.heap.size]? = some (.cells #[.int .i64 0, .bool false, .int .i64 0, .string ⟨#[]⟩] 24 (0, 0))) := heap_alloc_last w _
  have hrd := l12Read_any s (w.alloc (.cells #[.int .i64 0, .bool false, .int .i64 0, .string ⟨#[]⟩] 24)) hs
  unfold Fr.val at hrd ⊢
  clear hs
  go_enter Tryd.func14, Tryd.ntmps14
  go_wp2_with (go_at_call 26; refine hrd.mono ?_; clear hrd; rintro e w1 ⟨rfl, hb1⟩; have hR := (hb1.block _ (Array.getElem?_eq_some_iff.1 hR0.out).1).trans hR0.out; obtain ⟨hc, hf⟩ := bcellF hb1; have hz := hb1.size)
  exact bodyPost_ret (results_c2F rfl _ _ w.heap.size #[.int .i64 (frRd s).1.k, .bool (frRd s).1.l, .int .i64 (frRd s).1.s, .string (frRd s).1.b] rfl (load_fr (set4_heap _ _ _ _ hR))) rfl ⟨rfl, bel4 (btF hB0 hb1) (Nat.le_refl _) _ _ _ _⟩
end Go.Proofs.YtmegdgkpdonikaaDoor
