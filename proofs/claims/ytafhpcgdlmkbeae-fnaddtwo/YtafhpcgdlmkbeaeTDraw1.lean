import Derived.Test.YtafhpcgdlmkbeaeTDraw0
import Derived.Test.YtafhpcgdlmkbeaeTAt
namespace Go.Proofs.Ytafhpcgdlmkbeae
open Go.RowKit
set_option linter.unusedVariables false

theorem St2.step {w0 w w' : World} {b N M : Nat} (h : St2 w0 w b N) (k : St2 w w' b M) : St2 w0 w' b M := ⟨k.dr, grown_trans2 h.kept k.kept, k.lt⟩
theorem St2.self {w0 w : World} {b N : Nat} (h : St2 w0 w b N) : St2 w w b N := St2.start h.dr h.lt
theorem St2.blk {w w' : World} {b N B : Nat} {o : Obj} (h : St2 w w' b N) (hb : w.heap[B]? = some o) (hne : B ≠ b) : w'.heap[B]? = some o :=
  (h.kept.block B (Array.getElem?_eq_some_iff.1 hb).1 (fun e => hne (by injection e))).trans hb

theorem St2.set {w0 w : World} {b N : Nat} (h : St2 w0 w b N) (p : Addr) (v : Value) (hp : w0.heap.size ≤ p.block) (hb : b < p.block) : St2 w0 (w.setCell p v) b N := by
  have hg : w.grownBy (w.setCell p v) (some p.block) := ⟨rfl, rfl, rfl, by simp [World.setCell], fun k _ hk => Below.heap_setCell _ _ _ k (fun e => hk (by rw [e]))⟩
  refine ⟨?_, ⟨h.kept.os, h.kept.tape, h.kept.output, Nat.le_trans h.kept.size hg.size, fun k hk hne => (hg.block k (Nat.lt_of_lt_of_le hk h.kept.size) (fun e => by injection e with e; omega)).trans (h.kept.block k hk hne)⟩, Nat.lt_of_lt_of_le h.lt hg.size⟩
  exact h.dr.kept ((Below.refl (b + 1) w).grown hg (by have := h.lt; omega) (fun k e => by injection e with e; omega)) (Nat.lt_succ_self b)
theorem St2.setRow {w0 w : World} {b N : Nat} (h : St2 w0 w b N) (g : Nat) (cs : Array Value) (hp : w0.heap.size ≤ g) (hb : b < g) : St2 w0 (w.setRow g cs) b N := by
  have hg := grown_setRowT w g cs
  refine ⟨?_, ⟨h.kept.os, h.kept.tape, h.kept.output, Nat.le_trans h.kept.size hg.size, fun k hk hne => (hg.block k (Nat.lt_of_lt_of_le hk h.kept.size) (fun e => by injection e with e; omega)).trans (h.kept.block k hk hne)⟩, Nat.lt_of_lt_of_le h.lt hg.size⟩
  exact h.dr.kept ((Below.refl (b + 1) w).grown hg (by have := h.lt; omega) (fun k e => by injection e with e; omega)) (Nat.lt_succ_self b)
theorem set3_heap {W : World} {B : Nat} {a b c : Value} {t : TypeId} (o : Nat) (x : Value) (h : W.heap[B]? = some (.cells #[a, b, c] t (0, 0))) : (W.setCell ⟨B, o, none⟩ x).heap[B]? = some (.cells (#[a, b, c].setIfInBounds o x) t (0, 0)) := by
  obtain ⟨hlt, hk⟩ := Array.getElem?_eq_some_iff.1 h
  show (W.heap.modify B _)[B]? = _
  rw [Array.getElem?_eq_getElem (by rw [Array.size_modify]; exact hlt), Array.getElem_modify_self, hk]
  rfl
theorem frz3 {W : World} {B : Nat} {cs : Array Value} {t : TypeId} (o : Nat) (h : W.heap[B]? = some (.cells cs t (0, 0))) : W.frozen? ⟨B, o, none⟩ = false := by simp [World.frozen?, h]

set_option maxRecDepth 100000 in
set_option maxHeartbeats 2000000 in
theorem l71Field_any (b N : Nat) (w0 w : World) (hst : St2 w0 w b N) (hN : N ≤ 800000) :
    Calls Try.prog 42 #[.pointer (some ⟨b, 0, none⟩)] w fun e w' => ∃ f : Fd, e = .returned f.val ∧ f.n.size ≤ 20 ∧ f.v.size ≤ 20 ∧ St2 w0 w' b (N + 70) := by
  have hlt := hst.lt
  have hne : w.heap.size ≠ b := by omega
  have HST : Hid (St2 w0 w b N) := hst
  go_enter Try.func42, Try.ntmps42
  go_wp2_with fail
  have hR : (w.alloc (.cells #[.string ⟨#[]⟩, .string ⟨#[]⟩, .bool false] 35)).heap[w.heap.size]? = some (.cells #[.string ⟨#[]⟩, .string ⟨#[]⟩, .bool false] 35 (0, 0)) := heap_alloc_last w _
  have hc8 := str_cells2 (w.alloc (.cells #[.string ⟨#[]⟩, .string ⟨#[]⟩, .bool false] 35)) 9 [⟨#[58, 112, 97, 116, 104]⟩, ⟨#[58, 115, 116, 97, 116, 117, 115]⟩, ⟨#[107, 105, 110, 100]⟩, ⟨#[115, 105, 122, 101]⟩, ⟨#[116, 101]⟩, ⟨#[97]⟩, ⟨#[98]⟩, ⟨#[107, 101, 121]⟩] 7 (by decide)
  rw [World.size_alloc] at hc8
  have s1 := (hst.alloc (.cells #[.string ⟨#[]⟩, .string ⟨#[]⟩, .bool false] 35)).alloc (.cells (([⟨#[58, 112, 97, 116, 104]⟩, ⟨#[58, 115, 116, 97, 116, 117, 115]⟩, ⟨#[107, 105, 110, 100]⟩, ⟨#[115, 105, 122, 101]⟩, ⟨#[116, 101]⟩, ⟨#[97]⟩, ⟨#[98]⟩, ⟨#[107, 101, 121]⟩] : List ByteArray).map Value.string).toArray 9)
  refine (of_2 b N (w.heap.size + 1) 8 8 7 _ _ s1.self (by omega) (by decide) (by decide) (by omega) hc8).mono ?_
  rintro e w2 ⟨t1, rfl, ht1, k2⟩
  have hR2 := k2.blk (blkT hR _) hne
  have s2 := s1.step k2
  have hs2 : w.heap.size < w2.heap.size := (Array.getElem?_eq_some_iff.1 hR2).1
  clear hc8 s1 k2 hR
  go_wp2_with fail
  have hc9 := str_cells2 w2 9 [⟨#[]⟩, ⟨#[48]⟩, ⟨#[49, 50]⟩, ⟨#[116, 101, 120, 116]⟩, ⟨#[116, 114, 97, 105, 108, 101, 114, 115]⟩, ⟨#[47, 101, 99, 104, 111]⟩, ⟨#[120]⟩, ⟨#[121, 49]⟩, ⟨#[97, 98, 99]⟩] 8 (by decide)
  have s2' := s2.alloc (.cells (([⟨#[]⟩, ⟨#[48]⟩, ⟨#[49, 50]⟩, ⟨#[116, 101, 120, 116]⟩, ⟨#[116, 114, 97, 105, 108, 101, 114, 115]⟩, ⟨#[47, 101, 99, 104, 111]⟩, ⟨#[120]⟩, ⟨#[121, 49]⟩, ⟨#[97, 98, 99]⟩] : List ByteArray).map Value.string).toArray 9)
  refine (of_2 b (N + 1) w2.heap.size 9 9 8 _ _ s2'.self (by omega) (by decide) (by decide) (by omega) hc9).mono ?_
  rintro e w3 ⟨t2, rfl, ht2, k3⟩
  have hR3 := k3.blk (blkT hR2 _) hne
  have s3 := s2'.step k3
  have hs3 : w.heap.size < w3.heap.size := (Array.getElem?_eq_some_iff.1 hR3).1
  clear hc9 s2 s2' k3 hR2 hs2
  go_wp2_with fail
  have s4' := s3.alloc (.cells #[.string t1, .string t2, .bool false] 35)
  have hF3 : (w3.alloc (.cells #[.string t1, .string t2, .bool false] 35)).heap[w3.heap.size]? = some (.cells #[.string t1, .string t2, .bool false] 35 (0, 0)) := heap_alloc_last w3 _
  refine (pick_st2 b (N + 1 + 1) 8 _ _ s4'.self (by omega) (by decide)).mono ?_
  rintro e w4 ⟨v4, rfl, v40, v41, k4, _⟩
  have hR4 := k4.blk (blkT hR3 _) hne
  have hF4 := k4.blk hF3 (by omega)
  have s4 := s4'.step k4
  clear s4' k4 hF3 hR3 s3
  obtain ⟨F, hF⟩ : ∃ F, w3.heap.size = F := ⟨_, rfl⟩
  rw [hF] at hF4 hs3 ⊢
  have hFb : b < F := by omega
  have hFw : w0.heap.size ≤ F := by have := HST.out.kept.size; omega
  have hFn : F ≠ w.heap.size := by omega
  obtain ⟨q, hq⟩ : ∃ q, (v4 == 0) = q := ⟨_, rfl⟩
  have f2 := frz3 2 hF4
  have c2 := cell_of_row _ _ 2 _ _ _ hF4
  have hF5 := set3_heap 2 (.bool q) hF4
  have hR5 : (w4.setCell ⟨F, 2, none⟩ (.bool q)).heap[w.heap.size]? = _ := (Below.heap_setCell w4 ⟨F, 2, none⟩ (.bool q) w.heap.size (fun e => hFn e.symm)).trans hR4
  have s5 := s4.set ⟨F, 2, none⟩ (.bool q) hFw hFb
  clear hF
  go_wp2_with fail
  refine (pick_st2 b (N + 1 + 1 + 1) 24 _ _ s5.self (by omega) (by decide)).mono ?_
  rintro e w6 ⟨v6, rfl, v60, v61, k6, _⟩
  have hR6 := k6.blk hR5 hne
  have hF6 := k6.blk hF5 (by omega)
  have s6 := s5.step k6
  clear hR5 hF5 s5 k6 hR4 hF4 s4 f2 c2
  have hs6 : F < w6.heap.size := (Array.getElem?_eq_some_iff.1 hF6).1
  by_cases e0 : (v6 == 0) = true
  · go_wp2_with fail
    have hc3 := str_cells2 w6 9 [⟨#[]⟩, ⟨#[65]⟩, ⟨#[97, 97, 97, 97, 97, 97, 97, 97, 97, 97, 97, 97, 97, 97, 97, 97, 97]⟩] 17 (by decide)
    have s6' := s6.alloc (.cells (([⟨#[]⟩, ⟨#[65]⟩, ⟨#[97, 97, 97, 97, 97, 97, 97, 97, 97, 97, 97, 97, 97, 97, 97, 97, 97]⟩] : List ByteArray).map Value.string).toArray 9)
    refine (of_2 b (N + 1 + 1 + 1 + 1) w6.heap.size 3 3 17 _ _ s6'.self (by omega) (by decide) (by decide) (by omega) hc3).mono ?_
    rintro e w7 ⟨t3, rfl, ht3, k7⟩
    have hR7 := k7.blk (blkT hR6 _) hne
    have hF7 := k7.blk (blkT hF6 _) (by omega)
    have s7 := s6'.step k7
    have f0 := frz3 0 hF7
    have c0 := cell_of_row _ _ 0 _ _ _ hF7
    have hF8 := set3_heap 0 (.string t3) hF7
    have hR8 := (Below.heap_setCell w7 ⟨F, 0, none⟩ (.string t3) w.heap.size (fun e => hFn e.symm)).trans hR7
    have s8 := s7.set ⟨F, 0, none⟩ (.string t3) hFw hFb
    have y0 := cell_of_row _ _ 0 _ _ _ hF8
    have y1 := cell_of_row _ _ 1 _ _ _ hF8
    have y2 := cell_of_row _ _ 2 _ _ _ hF8
    simp at c0 y0 y1 y2
    clear hc3 s6' k7 hF7 hR7 s7 hR6 hF6 s6
    go_wp2_with (refine wpList_store_row rfl 35 _ _ rfl w.heap.size #[.string t3, .string t2, .bool q] rfl rfl 35 _ hR8 infoF3 rfl (by simp [Value.oneCell']) ?_)
    exact bodyPost_ret (results_cell_row rfl _ _ w.heap.size 35 #[.string t3, .string t2, .bool q] (0, 0) _ rfl (setRow_heap _ _ _ _ _ _ hR8) Try.underlying35 rfl infoF3) rfl ⟨⟨t3, t2, q⟩, rfl, by show t3.size ≤ 20; omega, by show t2.size ≤ 20; omega, (s8.setRow _ _ HST.out.kept.size hlt).more2 (by omega)⟩
  · have e0' : (v6 == 0) = false := by simpa using e0
    clear e0
    by_cases e1 : (v6 == 1) = true
    · go_wp2_with fail
      refine (l71Word_2 b (N + 1 + 1 + 1 + 1) _ _ s6.self (by omega)).mono ?_
      rintro e w7 ⟨t3, rfl, ht3, k7⟩
      have hR7 := k7.blk hR6 hne
      have hF7 := k7.blk hF6 (by omega)
      have s7 := s6.step k7
      have f0 := frz3 1 hF7
      have c0 := cell_of_row _ _ 1 _ _ _ hF7
      have hF8 := set3_heap 1 (.string t3) hF7
      have hR8 := (Below.heap_setCell w7 ⟨F, 1, none⟩ (.string t3) w.heap.size (fun e => hFn e.symm)).trans hR7
      have s8 := s7.set ⟨F, 1, none⟩ (.string t3) hFw hFb
      have y0 := cell_of_row _ _ 0 _ _ _ hF8
      have y1 := cell_of_row _ _ 1 _ _ _ hF8
      have y2 := cell_of_row _ _ 2 _ _ _ hF8
      simp at c0 y0 y1 y2
      clear k7 hF7 hR7 s7 hR6 hF6 s6
      go_wp2_with (refine wpList_store_row rfl 35 _ _ rfl w.heap.size #[.string t1, .string t3, .bool q] rfl rfl 35 _ hR8 infoF3 rfl (by simp [Value.oneCell']) ?_)
      exact bodyPost_ret (results_cell_row rfl _ _ w.heap.size 35 #[.string t1, .string t3, .bool q] (0, 0) _ rfl (setRow_heap _ _ _ _ _ _ hR8) Try.underlying35 rfl infoF3) rfl ⟨⟨t1, t3, q⟩, rfl, by show t1.size ≤ 20; omega, by show t3.size ≤ 20; omega, (s8.setRow _ _ HST.out.kept.size hlt).more2 (by omega)⟩
    · have e1' : (v6 == 1) = false := by simpa using e1
      clear e1
      have y0 := cell_of_row _ _ 0 _ _ _ hF6
      have y1 := cell_of_row _ _ 1 _ _ _ hF6
      have y2 := cell_of_row _ _ 2 _ _ _ hF6
      simp at y0 y1 y2
      go_wp2_with (refine wpList_store_row rfl 35 _ _ rfl w.heap.size #[.string t1, .string t2, .bool q] rfl rfl 35 _ hR6 infoF3 rfl (by simp [Value.oneCell']) ?_)
      exact bodyPost_ret (results_cell_row rfl _ _ w.heap.size 35 #[.string t1, .string t2, .bool q] (0, 0) _ rfl (setRow_heap _ _ _ _ _ _ hR6) Try.underlying35 rfl infoF3) rfl ⟨⟨t1, t2, q⟩, rfl, by show t1.size ≤ 20; omega, by show t2.size ≤ 20; omega, (s6.setRow _ _ HST.out.kept.size hlt).more2 (by omega)⟩
end Go.Proofs.Ytafhpcgdlmkbeae
