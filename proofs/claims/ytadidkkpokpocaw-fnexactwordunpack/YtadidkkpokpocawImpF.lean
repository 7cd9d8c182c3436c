import Derived.Test.YtadidkkpokpocawImpC
namespace Go.Proofs.Ytadidkkpokpocaw
open Go.RowKit
set_option linter.unusedVariables false

set_option maxRecDepth 100000 in
set_option maxHeartbeats 1000000 in
theorem byteCodes_any (s : ByteArray) (w : World) (hz : s.size ≤ 16) :
    Calls Try.prog 41 #[.string s] w fun e w' => ∃ v, e = .returned v ∧ w'.ownsRow w.heap.size 75 2 v s.size (cellsC ((bytesL s).map fun c => (c, 8))) ∧ Below w.heap.size w w' := by
  obtain ⟨ii, hi, hz0, hz1, hz2⟩ := info_parts infoC
  obtain ⟨cap, C2, fr2, w2, hcv, hb2, hz2', hblk2, hC2⟩ := conv_any (w.alloc (.cells #[] 75)) s
  have HC2 : Hid (∀ j, j < s.size → C2[j]? = some (.int .u8 ((bytesL s).getD j 0))) := hC2
  have h1 : Hid (w2.ownsRow w.heap.size 75 2 (.slice (some ⟨w.heap.size, 0, none⟩) 0 0) 0 []) := own_below' (own_zero2 w 75) hb2
  have h2 : Hid (w2.heap[w.heap.size + 1]? = some (.cells C2 5 fr2)) := by
    simp only [World.size_alloc] at hblk2
    exact hblk2
  have hbw : Below w.heap.size w w2 := ((Below.refl _ _).alloc (Nat.le_refl _) _).trans (hb2.mono (by simp))
  clear hC2 hblk2 hb2 hz2'
  go_enter Try.func41, Try.ntmps41
  go_wp2
  clear hcv
  go_loopw [3, 10] (fun v i wr => ∃ k : Nat, k ≤ s.size ∧ i = .int .i64 k ∧ wr.ownsRow w.heap.size 75 2 v k (cellsC (((bytesL s).take k).map fun c => (c, 8))) ∧ wr.heap[w.heap.size + 1]? = some (.cells C2 5 fr2) ∧ Below w.heap.size w wr) (fun _ i _ => s.size - (intOf i).toNat)
  case atStart => exact ⟨0, by omega, rfl, h1.out, h2.out, hbw⟩
  case round =>
    clear h1 h2 hbw
    obtain ⟨k, hk, rfl, hown, hg2, hbel⟩ := hrel
    have HG2 : Hid (wr.heap[w.heap.size + 1]? = some (.cells C2 5 fr2)) := hg2
    clear hg2
    by_cases hlt : k < s.size
    · have hlt' : (k : Int) < s.size := by omega
      have hkl : k < (bytesL s).length := by rw [bytesL_length]; exact hlt
      obtain ⟨x, hx⟩ : ∃ x, (bytesL s).getD k 0 = x := ⟨_, rfl⟩
      have hx' : (bytesL s)[k] = x := by rw [← hx]; simp [List.getD, hkl]
      have hmem : x ∈ bytesL s := by rw [← hx']; exact List.getElem_mem hkl
      obtain ⟨x0, x1⟩ := bytesL_bd s x hmem
      have hq : wr.cell? ⟨w.heap.size + 1, k, none⟩ = some (.int .u8 x) := by
        rw [cell_of_row _ _ k _ _ _ HG2.out, HC2.out k hlt, hx]
      have HS : Hid (((bytesL s).take (k + 1)).map (fun c => (c, (8 : Int))) = ((bytesL s).take k).map (fun c => (c, (8 : Int))) ++ [(x, 8)]) := by
        show ((bytesL s).take (k + 1)).map (fun c => (c, (8 : Int))) = ((bytesL s).take k).map (fun c => (c, (8 : Int))) ++ [(x, 8)]
        rw [List.take_succ_eq_append_getElem hkl, hx']; simp
      clear hx hx' hmem hkl
      go_wp2_with (at_builtin; refine wpList_append_own _ rfl _ _ 72 rfl w.heap.size 75 ii (.agg #[.int .i64 0, .int .i64 0]) 2 16 Try.underlying72 hi hz0 hz1 hz2 rfl (by decide) _ _ _ rfl (hown.alloc _) ⟨wr.heap.size, 0, none⟩ 1 1 [.int .i64 x, .int .i64 8] rfl rfl (cell_two _ _ _ _) (two_cell _ _) (by unfold maxLen; omega) (by omega) (by have := hbel.size; simp; omega) ?_; intro v' w3 hown' hgrow _)
      go_roundw
      case rel =>
        refine ⟨k + 1, by omega, by go_num, ?_, ?_, ?_⟩
        · rw [HS.out, cellsC_snoc]; exact hown'
        · exact kept_app HG2.out (by decide) hown hgrow
        · exact Below.grown (Below.alloc hbel hbel.size _) hgrow (by have := hbel.size; simp; omega) (fun q hq => (hown.lt q hq).1)
      case measure => simp [intOf]; omega
    · have hks : k = s.size := by omega
      have hall : (bytesL s).take k = bytesL s := List.take_of_length_le (by rw [bytesL_length]; omega)
      rw [hall, hks] at hown
      clear hall
      go_wp2
      go_ret
      exact ⟨_, rfl, hown, hbel⟩

/-- How many bits codes have. -/
def sumB : List (Int × Int) → Int
  | [] => 0
  | c :: t => c.2 + sumB t
theorem sumB_snoc (cs : List (Int × Int)) (c : Int × Int) : sumB (cs ++ [c]) = sumB cs + c.2 := by
  induction cs with
  | nil => simp [sumB]
  | cons a t ih => simp only [List.cons_append, sumB, ih]; omega
theorem sumB_bd (cs : List (Int × Int)) (h : ∀ c ∈ cs, 0 ≤ c.2 ∧ c.2 ≤ 8) : 0 ≤ sumB cs ∧ sumB cs ≤ 8 * cs.length := by
  induction cs with
  | nil => simp [sumB]
  | cons a t ih =>
    have h1 := h a (by simp)
    have h2 := ih (fun c hc => h c (by simp [hc]))
    simp only [sumB, List.length_cons]
    omega
set_option maxRecDepth 100000 in
set_option maxHeartbeats 400000 in
theorem numTop_small (f : Int) (w : World) (h0 : 0 ≤ f) (h1 : f ≤ 7) :
    Calls Try.prog 60 #[.int .i64 f] w fun e w' => e = .returned (.int .i64 (pw f - 1)) ∧ w' = w := by
  rcases (by omega : f = 0 ∨ f = 1 ∨ f = 2 ∨ f = 3 ∨ f = 4 ∨ f = 5 ∨ f = 6 ∨ f = 7) with rfl | rfl | rfl | rfl | rfl | rfl | rfl | rfl
  all_goals
    go_enter Try.func60, Try.ntmps60
    go_wp2
    go_ret
    exact ⟨rfl, rfl⟩

set_option maxRecDepth 100000 in
set_option maxHeartbeats 1000000 in
theorem wordFill_any (cs : List (Int × Int)) (a : Option Addr) (n cap base : Nat) (w : World) (hn : cs.length = n) (hn16 : n ≤ 16) (hbd : ∀ c ∈ cs, 0 ≤ c.2 ∧ c.2 ≤ 8) (hown : w.ownsRow base 75 2 (.slice a n cap) n (cellsC cs)) :
    Calls Try.prog 36 #[.slice a n cap] w fun e w' => e = .returned (.agg #[.int .i64 (pw ((8 - sumB cs % 8) % 8) - 1), .int .i64 ((8 - sumB cs % 8) % 8)]) ∧ Below w.heap.size w w' := by
  have HN : Hid (cs.length = n) := hn
  have HBD : Hid (∀ c ∈ cs, 0 ≤ c.2 ∧ c.2 ≤ 8) := hbd
  have HO : Hid (w.ownsRow base 75 2 (.slice a n cap) n (cellsC cs)) := hown
  clear hn hbd hown
  go_enter Try.func36, Try.ntmps36
  go_wp2
  go_loopw [3, 9] (fun u i wr => ∃ k : Nat, k ≤ n ∧ i = .int .i64 k ∧ u = .int .i64 (sumB (cs.take k)) ∧ Below (w.heap.size + 1) (w.alloc (.cells #[.int .i64 0, .int .i64 0] 75)) wr) (fun _ i _ => n - (intOf i).toNat)
  case atStart => exact ⟨0, by omega, rfl, rfl, Below.refl _ _⟩
  case round =>
    obtain ⟨k, hk, rfl, rfl, hbel⟩ := hrel
    have hsb := sumB_bd (cs.take k) (fun c hc => HBD.out c (List.mem_of_mem_take hc))
    have hsl : (cs.take k).length ≤ 16 := by rw [List.length_take]; have := HN.out; omega
    by_cases hlt : k < n
    · have hlt' : (k : Int) < n := by omega
      have hkl : k < cs.length := by rw [HN.out]; exact hlt
      obtain ⟨g, rfl⟩ : ∃ g, a = some ⟨g, 0, none⟩ := by
        rcases HO.out.2 with ⟨hv, h0⟩ | ⟨g, c', cur, hv, _⟩
        · omega
        · injection hv with h3; exact ⟨g, h3⟩
      obtain ⟨x, hx⟩ : ∃ x, cs[k].1 = x := ⟨_, rfl⟩
      obtain ⟨y, hy⟩ : ∃ y, cs[k].2 = y := ⟨_, rfl⟩
      have hgl : g < w.heap.size := (HO.out.lt g rfl).2
      have q1 : wr.cell? ⟨g, k * 2, none⟩ = some (.int .i64 x) := by
        have h := HO.out.cells (g := g) rfl (2 * k) _ (cellsC_at cs k hkl).1
        rw [Addr.add_lit, hx] at h
        rw [hbel.cell (p := ⟨g, k * 2, none⟩) (by show g < w.heap.size + 1; omega), (Below.alloc (Below.refl w.heap.size w) (Nat.le_refl _) _).cell (p := ⟨g, k * 2, none⟩) hgl]
        simpa [Nat.mul_comm] using h
      have q2 : wr.cell? ⟨g, k * 2 + 1, none⟩ = some (.int .i64 y) := by
        have h := HO.out.cells (g := g) rfl (2 * k + 1) _ (cellsC_at cs k hkl).2
        rw [Addr.add_lit, hy] at h
        rw [hbel.cell (p := ⟨g, k * 2 + 1, none⟩) (by show g < w.heap.size + 1; omega), (Below.alloc (Below.refl w.heap.size w) (Nat.le_refl _) _).cell (p := ⟨g, k * 2 + 1, none⟩) hgl]
        simpa [Nat.mul_comm] using h
      have yb : 0 ≤ y ∧ y ≤ 8 := by rw [← hy]; exact HBD.out _ (List.getElem_mem hkl)
      obtain ⟨y0, y1⟩ := yb
      have HS : Hid (sumB (cs.take (k + 1)) = sumB (cs.take k) + y) := by
        show sumB (cs.take (k + 1)) = sumB (cs.take k) + y
        rw [List.take_succ_eq_append_getElem hkl, sumB_snoc, hy]
      clear hx hy hkl
      obtain ⟨s0, s1⟩ := hsb
      go_wp2
      go_roundw
      case rel => exact ⟨k + 1, by omega, by go_num, by rw [HS.out], hbel.alloc (by have := hbel.size; simpa using this) _⟩
      case measure => simp [intOf]; omega
    · have hks : cs.take k = cs := List.take_of_length_le (by rw [HN.out]; omega)
      rw [hks] at hsb
      rw [hks]
      obtain ⟨s0, s1⟩ := hsb
      have s1' : sumB cs ≤ 128 := by have := HN.out; omega
      clear hks hsl s1
      have hblk : Hid (wr.heap[w.heap.size]? = some (.cells #[.int .i64 0, .int .i64 0] 75 (0, 0))) := by
        show wr.heap[w.heap.size]? = some (.cells #[.int .i64 0, .int .i64 0] 75 (0, 0))
        rw [hbel.block w.heap.size (by omega)]; exact heap_alloc_last _ _
      obtain ⟨f, hf⟩ : ∃ f, -(sumB cs % 8) % 8 = f := ⟨_, rfl⟩
      have HF : Hid ((8 - sumB cs % 8) % 8 = f) := by show (8 - sumB cs % 8) % 8 = f; omega
      have f0 : 0 ≤ f := by omega
      have f1 : f ≤ 7 := by omega
      have hinf : (Try.prog.info? 75).map (·.size) = some 2 := by kernel_rfl
      go_wp2_with (first | (go_at_call 60; refine (numTop_small _ _ (by omega) (by omega)).mono ?_; rintro e wq ⟨rfl, rfl⟩) | (refine wpList_store_row rfl 75 _ _ rfl w.heap.size #[.int .i64 (pw f - 1), .int .i64 f] rfl rfl 75 _ hblk.out hinf rfl (two_all _ _) ?_))
      refine bodyPost_ret (results_cell_row rfl _ _ w.heap.size 75 #[.int .i64 (pw f - 1), .int .i64 f] (0, 0) _ rfl (setRow_heap _ _ _ _ _ _ hblk.out) Try.underlying75 rfl hinf) rfl ⟨by rw [HF.out], setRow_below (((Below.refl _ _).alloc (Nat.le_refl _) _).trans (hbel.mono (by omega))) _ _ (Nat.le_refl _)⟩
end Go.Proofs.Ytadidkkpokpocaw
