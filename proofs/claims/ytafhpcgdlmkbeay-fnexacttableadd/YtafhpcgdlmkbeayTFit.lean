import Derived.Test.YtafhpcgdlmkbeayTSpec
import Derived.Laws.AppendOwnNone
import Derived.Deep.WholeRow
namespace Go.Proofs.Ytafhpcgdlmkbeay
open Go.RowKit
set_option linter.unusedVariables false

theorem infoF : (Try.prog.info? 37).map (fun i => (i.zero, i.size, i.bytes)) = some (some (.agg #[.string ⟨#[]⟩, .string ⟨#[]⟩, .bool false]), 3, 40) := by kernel_rfl
theorem infoT2 : (Try.prog.info? 29).map (·.size) = some 2 := by kernel_rfl
/-- The first fields, as many as fit. -/
def fitL : Int → List Fd → List Fd
  | _, [] => []
  | max, f :: t => if fLen f ≤ max then f :: fitL (max - fLen f) t else []
theorem fLen_pos (f : Fd) : 4 ≤ fLen f := by unfold fLen; omega
theorem fSum_four (fs : List Fd) : 4 * (fs.length : Int) ≤ fSum fs := by
  induction fs with
  | nil => simp [fSum]
  | cons f t ih => have := fLen_pos f; simp only [fSum, List.length_cons]; omega
theorem fSum_nonneg (fs : List Fd) : 0 ≤ fSum fs := by
  induction fs with
  | nil => simp [fSum]
  | cons f t ih => have := fLen_pos f; simp only [fSum]; omega
theorem fitL_take (max : Int) (fs : List Fd) : fitL max fs = fs.take (fitL max fs).length := by
  induction fs generalizing max with
  | nil => rfl
  | cons f t ih =>
    unfold fitL
    split
    · rw [List.length_cons, List.take_succ_cons, ← ih]
    · rfl
theorem fitL_sum (max : Int) (fs : List Fd) (h : 0 ≤ max) : fSum (fitL max fs) ≤ max := by
  induction fs generalizing max with
  | nil => simpa [fitL, fSum] using h
  | cons f t ih =>
    unfold fitL
    split
    · rename_i hl
      have := ih (max - fLen f) (by omega)
      simp only [fSum]; omega
    · simpa [fSum] using h
theorem fitL_len (max : Int) (fs : List Fd) (k : Nat) (hk : k ≤ fs.length) (h : fSum (fs.take k) ≤ max) : k ≤ (fitL max fs).length := by
  induction fs generalizing max k with
  | nil => simp at hk; omega
  | cons f t ih =>
    cases k with
    | zero => omega
    | succ k =>
      rw [List.take_succ_cons] at h
      simp only [fSum] at h
      have h0 := fSum_nonneg (t.take k)
      unfold fitL
      rw [if_pos (by omega), List.length_cons]
      have := ih (max - fLen f) k (by simpa using hk) (by omega)
      omega
theorem fSum_take_le (fs : List Fd) (j k : Nat) (h : j ≤ k) : fSum (fs.take j) ≤ fSum (fs.take k) := by
  induction fs generalizing j k with
  | nil => simp
  | cons f t ih =>
    cases j with
    | zero => have := fSum_nonneg ((f :: t).take k); simpa [fSum] using this
    | succ j =>
      cases k with
      | zero => omega
      | succ k =>
        rw [List.take_succ_cons, List.take_succ_cons]
        simp only [fSum]
        have := ih j k (by omega)
        omega
theorem fitL_lt (max : Int) (fs : List Fd) (k : Nat) (h0 : 0 ≤ max) (h : max < fSum (fs.take k)) : (fitL max fs).length < k := by
  have h1 := fitL_sum max fs h0
  rw [fitL_take] at h1
  have : ¬ k ≤ (fitL max fs).length := by
    intro hk
    have := fSum_take_le fs k _ hk
    omega
  omega
theorem own_Fs {W : World} {base n cap : Nat} {a : Option Addr} {fs : List Fd} (h : W.ownsRow base 37 3 (.slice a n cap) n (cellsF fs)) : Fs W a n cap fs := by
  have hl := h.1
  rw [cellsF_length] at hl
  have hcs := h
  rcases h.2 with ⟨hv, rfl⟩ | ⟨g, c, cur, hv, _, _, h1, h2, _⟩
  · injection hv with e1 e2 e3
    subst e1; subst e3
    exact ⟨by omega, Nat.le_refl _, by unfold maxLen; omega, (by intro g o e; cases e), (by intro h; omega), .inl ⟨rfl, rfl, rfl⟩⟩
  · injection hv with e1 e2 e3
    subst e1; subst e3
    refine ⟨by omega, h1, h2, ?_, fun _ => ⟨g, 0, rfl⟩, .inr ⟨g, 0, rfl⟩⟩
    intro g' o e j u hu
    injection e with e
    injection e with e1 e2
    subst e1; subst e2
    have := hcs.cells (g := g) rfl j u hu
    rwa [Addr.add_lit] at this
theorem own_less {W : World} {base n cap m : Nat} {g : Nat} {e : TypeId} {size : Nat} {xs : List Value} (h : W.ownsRow base e size (.slice (some ⟨g, 0, none⟩) n cap) n xs) (hm : m ≤ n) : W.ownsRow base e size (.slice (some ⟨g, 0, none⟩) m cap) m (xs.take (m * size)) := by
  have hle : m * size ≤ n * size := Nat.mul_le_mul_right _ hm
  refine ⟨by rw [List.length_take, h.1]; omega, ?_⟩
  rcases h.2 with ⟨hv, _⟩ | ⟨g', c, cur, hv, h0, h1, h2, h3, h4, h5⟩
  · injection hv with e1; cases e1
  · injection hv with e1 e2 e3
    injection e1 with e1
    injection e1 with e1
    subst e1; subst e3
    refine .inr ⟨g, cap, cur, rfl, h0, h1, Nat.le_trans hm h2, h3, h4, ?_⟩
    rw [← h5, List.take_take, Nat.min_eq_left hle]
theorem cellsF_take (fs : List Fd) (k : Nat) : (cellsF fs).take (k * 3) = cellsF (fs.take k) := by
  induction fs generalizing k with
  | nil => simp [cellsF]
  | cons f t ih =>
    cases k with
    | zero => simp [cellsF]
    | succ k =>
      rw [List.take_succ_cons, cellsF_cons, cellsF_cons, show (k + 1) * 3 = k * 3 + 1 + 1 + 1 by omega, List.take_succ_cons, List.take_succ_cons, List.take_succ_cons, ih]
/-- 'append' of fields. -/
theorem wpList_appFs {ops : Array Oper} {rest : List Oper} {o : Oper} {act : Act} {Q : Exit → Act → World → Prop} (w : World) (hgd : o.guard = none) (s x : Operand)
    (ho : o.op = .call { callee := .builtin .append, args := #[s, x], argTypes := #[27, 27] })
    (base : Nat) (v : Value) (k : Nat) (xs : List Value) (hs : act.eval s = v) (hown : w.ownsRow base 37 3 v k xs) (a : Option Addr) (n cap : Nat) (fs : List Fd) (hx : act.eval x = .slice a n cap) (hf : Fs w a n cap fs)
    (hk : k + n ≤ 3000000) (hb : base ≤ w.heap.size)
    (h : ∀ v' w', w'.ownsRow base 37 3 v' (k + n) (xs ++ cellsF fs) → w.grownBy w' v.ownBlock → wpList Try.prog ops Q rest (act.put o.dst v') w') : wpList Try.prog ops Q (o :: rest) act w := by
  obtain ⟨ii, hi, hz0, hz1, hz2⟩ := info_parts infoF
  rcases hf.form with ⟨rfl, rfl, rfl⟩ | ⟨g, of, rfl⟩
  · have hfs : fs = [] := List.eq_nil_of_length_eq_zero hf.len
    subst hfs
    refine wpList_append_own_none hgd s x 27 ho base 37 ii 3 Try.underlying27 hi v k xs hs hown hx ?_
    exact h v w (by simpa [cellsF] using hown) ⟨rfl, rfl, rfl, Nat.le_refl _, fun _ _ _ => rfl⟩
  · refine wpList_append_own w hgd s x 27 ho base 37 ii (.agg #[.string ⟨#[]⟩, .string ⟨#[]⟩, .bool false]) 3 40 Try.underlying27 hi hz0 hz1 hz2 rfl (by decide) v k xs hs hown ⟨g, of, none⟩ n cap (cellsF fs) hx (by rw [cellsF_length, hf.len]) ?_ (cellsF_one fs) (by unfold maxLen; omega) (by omega) hb (fun v' w' h1 h2 _ => h v' w' h1 h2)
    intro j u hu
    have := hf.cells g of rfl j u hu
    rw [Addr.add_lit]
    exact this
theorem own_zero3 (w : World) (e : TypeId) : (w.alloc (.cells #[] e)).ownsRow w.heap.size e 3 (.slice (some ⟨w.heap.size, 0, none⟩) 0 0) 0 [] :=
  ⟨rfl, .inr ⟨w.heap.size, 0, #[], rfl, Nat.le_refl _, by show (w.heap.push _)[w.heap.size]? = _; simp, Nat.le_refl _, by decide, rfl, rfl⟩⟩
theorem own_formT {w : World} {base : Nat} {e : TypeId} {size : Nat} {v : Value} {n : Nat} {xs : List Value} (h : w.ownsRow base e size v n xs) : ∃ a c, v = .slice a n c := by
  rcases h.2 with ⟨rfl, rfl⟩ | ⟨g, cap, cur, rfl, _⟩
  · exact ⟨_, _, rfl⟩
  · exact ⟨_, _, rfl⟩
theorem own_belowT {w w' : World} {base : Nat} {e : TypeId} {size : Nat} {v : Value} {n : Nat} {xs : List Value} (h : w.ownsRow base e size v n xs) (hb : Below w.heap.size w w') : w'.ownsRow base e size v n xs := by
  refine ⟨h.1, ?_⟩
  rcases h.2 with h0 | ⟨g, cap, cur, h1, h2, h3, h4⟩
  · exact .inl h0
  · exact .inr ⟨g, cap, cur, h1, h2, by rw [hb.block g (Array.getElem?_eq_some_iff.1 h3).1]; exact h3, h4⟩
theorem own_baseT {w : World} {b b' : Nat} {e : TypeId} {size : Nat} {v : Value} {n : Nat} {xs : List Value} (h : w.ownsRow b e size v n xs) (hb : b' ≤ b) : w.ownsRow b' e size v n xs := by
  refine ⟨h.1, ?_⟩
  rcases h.2 with h0 | ⟨g, cap, cur, h1, h2, h3⟩
  · exact .inl h0
  · exact .inr ⟨g, cap, cur, h1, Nat.le_trans hb h2, h3⟩

theorem blkT {W : World} {B : Nat} {o : Obj} (h : W.heap[B]? = some o) (o' : Obj) : (W.alloc o').heap[B]? = some o := by
  have := (Array.getElem?_eq_some_iff.1 h).1
  show (W.heap.push o')[B]? = _
  rw [Array.getElem?_push, if_neg (by omega)]
  exact h
theorem keep_fit {w w1 w2 : World} {B : Nat} {v x : Value} {k : Nat} {xs : List Value} {o1 o2 : Obj} (hb : Below w1.heap.size w1 w2) (h0 : w1.cell? ⟨B, 1, none⟩ = some x) (h1 : w1.ownsRow w.heap.size 37 3 v k xs) (h2 : w1.heap[B]? = some o1) (h3 : w1.heap[B + 1]? = some o2) (h4 : Below w.heap.size w w1) :
    w2.cell? ⟨B, 1, none⟩ = some x ∧ w2.ownsRow w.heap.size 37 3 v k xs ∧ w2.heap[B]? = some o1 ∧ w2.heap[B + 1]? = some o2 ∧ Below w.heap.size w w2 :=
  ⟨(hb.cell (p := ⟨B, 1, none⟩) (World.block_lt_of_cell? w1 _ h0)).trans h0, own_belowT h1 hb, (hb.block _ (Array.getElem?_eq_some_iff.1 h2).1).trans h2, (hb.block _ (Array.getElem?_eq_some_iff.1 h3).1).trans h3, h4.trans (hb.mono h4.size)⟩
theorem grown_setRowT (w : World) (g : Nat) (cs : Array Value) : w.grownBy (w.setRow g cs) (some g) := by
  refine ⟨rfl, rfl, rfl, by simp [World.setRow], fun k _ hk => ?_⟩
  show (w.heap.modify g _)[k]? = _
  rw [Array.getElem?_modify, if_neg (fun e => hk (by rw [e]))]
theorem not_rowT {W : World} {B : Nat} {t e : TypeId} {C : Array Value} {fr : Nat × Nat} (h : W.heap[B]? = some (.cells C t fr)) (hte : t ≠ e) {base size k : Nat} {v : Value} {xs : List Value} (hr : W.ownsRow base e size v k xs) : some B ≠ v.ownBlock := by
  rcases hr.2 with ⟨rfl, _⟩ | ⟨g, cap, cur, rfl, _, hgb, _⟩
  · simp [Value.ownBlock]
  · intro e'
    obtain rfl : B = g := by simpa [Value.ownBlock] using e'
    have := h.symm.trans hgb
    simp at this
    exact hte this.2.1
def lenT : Value → Nat
  | .slice _ n _ => n
  | _ => 0
set_option maxRecDepth 100000 in
set_option maxHeartbeats 1000000 in
theorem l3Fit_any (fs : List Fd) (a : Option Addr) (n cap : Nat) (max : Int) (w : World) (hf : Fs w a n cap fs) (hbd : fsBd fs) (hn : n ≤ 1048577) (m0 : 0 ≤ max) (m1 : max ≤ 1000) :
    Calls Try.prog 42 #[.agg #[.slice a n cap, .int .i64 max]] w fun e w' => ∃ v, e = .returned (.agg #[v, .int .i64 max]) ∧ w'.ownsRow w.heap.size 37 3 v (fitL max fs).length (cellsF (fitL max fs)) ∧ Below w.heap.size w w' := by
  have HF : Hid (Fs w a n cap fs) := hf
  have HB : Hid (fsBd fs) := hbd
  have hlen := hf.len
  clear hf hbd
  have hz0 : (((w.alloc (.cells #[.slice a n cap, .int .i64 max] 29)).alloc (.cells #[.slice none 0 0, .int .i64 0] 29)).alloc (.cells #[] 37)).ownsRow w.heap.size 37 3 (.slice (some ⟨w.heap.size + 1 + 1, 0, none⟩) 0 0) 0 [] := by
    have h := own_zero3 ((w.alloc (.cells #[.slice a n cap, .int .i64 max] 29)).alloc (.cells #[.slice none 0 0, .int .i64 0] 29)) 37
    rw [World.size_alloc, World.size_alloc] at h
    exact own_baseT h (by omega)
  have HZ0 : Hid _ := hz0
  clear hz0
  go_enter Try.func42, Try.ntmps42
  go_wp2_with (at_builtin; refine wpList_appFs _ rfl _ _ rfl w.heap.size _ _ _ rfl HZ0.out a n cap fs rfl (HF.out.below ((((Below.refl _ _).alloc (Nat.le_refl _) _).alloc (by simp) _).alloc (by simp; omega) _)) (by omega) (by simp; omega) ?_; intro v4 w4 hown4 hgrow4')
  have hgrow4 : (((w.alloc (.cells #[.slice a n cap, .int .i64 max] 29)).alloc (.cells #[.slice none 0 0, .int .i64 0] 29)).alloc (.cells #[] 37)).grownBy w4 (some (w.heap.size + 1 + 1)) := hgrow4'
  clear hgrow4'
  rw [Nat.zero_add, List.nil_append] at hown4
  obtain ⟨a4, c4, rfl⟩ := own_formT hown4
  have hb0 : Below w.heap.size w (((w.alloc (.cells #[.slice a n cap, .int .i64 max] 29)).alloc (.cells #[.slice none 0 0, .int .i64 0] 29)).alloc (.cells #[] 37)) := (((Below.refl _ _).alloc (Nat.le_refl _) _).alloc (by simp) _).alloc (by simp; omega) _
  have hb4 : Below w.heap.size w w4 := hb0.grown hgrow4 (by simp; omega) (fun q hq => by
    injection hq with hq
    omega)
  have hT4 : w4.heap[w.heap.size]? = some (.cells #[.slice a n cap, .int .i64 max] 29 (0, 0)) := by
    rw [hgrow4.block w.heap.size (by simp; omega) (by intro e; injection e; omega)]
    exact blkT (blkT (heap_alloc_last w _) _) _
  have hR4 : w4.heap[w.heap.size + 1]? = some (.cells #[.slice none 0 0, .int .i64 0] 29 (0, 0)) := by
    rw [hgrow4.block (w.heap.size + 1) (by simp) (by intro e; injection e; omega)]
    have h := heap_alloc_last (w.alloc (.cells #[.slice a n cap, .int .i64 max] 29)) (.cells #[.slice none 0 0, .int .i64 0] 29)
    rw [World.size_alloc] at h
    exact blkT h _
  clear hgrow4 hb0 HZ0
  go_loopw [3] (fun v wr => ∃ (k : Nat) (a' : Option Addr) (c' : Nat), k ≤ n ∧ (fitL max fs).length ≤ k ∧ v = .slice a' k c' ∧ wr.ownsRow w.heap.size 37 3 (.slice a' k c') k (cellsF (fs.take k)) ∧ wr.heap[w.heap.size]? = some (.cells #[.slice a n cap, .int .i64 max] 29 (0, 0)) ∧ wr.heap[w.heap.size + 1]? = some (.cells #[.slice none 0 0, .int .i64 0] 29 (0, 0)) ∧ Below w.heap.size w wr) (fun v _ => lenT v)
  case atStart =>
    refine ⟨n, a4, c4, Nat.le_refl _, ?_, rfl, ?_, hT4, hR4, hb4⟩
    · rw [fitL_take, List.length_take]; omega
    · rw [List.take_of_length_le (by omega)]; exact hown4
  case round =>
    clear hown4 hT4 hR4 hb4
    obtain ⟨k, a', c', hk, hfk, rfl, hown, hT, hR, hbel⟩ := hrel
    have hFs := own_Fs hown
    have hbk : fsBd (fs.take k) := fun f hf => HB.out f (List.mem_of_mem_take hf)
    have hsz := fun (w' : World) (h : w'.ownsRow w.heap.size 37 3 (.slice a' k c') k (cellsF (fs.take k))) => l3Size_any (fs.take k) a' k c' w' (own_Fs h) hbk (by omega)
    have hsb := fSum_bd (fs.take k) hbk
    obtain ⟨s, hs⟩ : ∃ s, fSum (fs.take k) = s := ⟨_, rfl⟩
    rw [hs] at hsz hsb
    obtain ⟨s0, s1⟩ := hsb
    have s2 : s ≤ 9000000000000 := by rw [List.length_take] at s1; omega
    clear s1 hFs hbk
    have t1 : wr.cell? ⟨w.heap.size, 1, none⟩ = some (.int .i64 max) := cell_of_row wr _ 1 _ _ _ hT
    have t1d : wr.drew.cell? ⟨w.heap.size, 1, none⟩ = some (.int .i64 max) := t1
    have hod : wr.drew.ownsRow w.heap.size 37 3 (.slice a' k c') k (cellsF (fs.take k)) := hown
    have hTd : wr.drew.heap[w.heap.size]? = some (.cells #[.slice a n cap, .int .i64 max] 29 (0, 0)) := hT
    have hRd : wr.drew.heap[w.heap.size + 1]? = some (.cells #[.slice none 0 0, .int .i64 0] 29 (0, 0)) := hR
    have hBd : Below w.heap.size w wr.drew := hbel.drew
    have HSS : Hid (fSum (fs.take k) = s) := hs
    clear hs hT hR
    have hmx : Try.prog.follows .mixedOrders = true := by kernel_rfl
    by_cases hgt : max < s
    · have hlt2 := fitL_lt max fs k m0 (by rw [HSS.out]; exact hgt)
      have hkp : 0 < k := by omega
      obtain ⟨g, rfl⟩ : ∃ g, a' = some ⟨g, 0, none⟩ := by
        rcases hown.2 with ⟨hv, h0⟩ | ⟨g, c'', cur, hv, _⟩
        · omega
        · injection hv with h3; exact ⟨g, h3⟩
      have hkc : k ≤ c' := (own_Fs hown).le
      have hkm : c' ≤ maxLen := (own_Fs hown).cmax
      unfold maxLen at hkm
      obtain ⟨m, rfl⟩ : ∃ m, k = m + 1 := ⟨k - 1, by omega⟩
      go_wp2
      go_region_held3 (fun w' => w'.cell? ⟨w.heap.size, 1, none⟩ = some (.int .i64 max) ∧ w'.ownsRow w.heap.size 37 3 (.slice (some ⟨g, 0, none⟩) (m + 1) c') (m + 1) (cellsF (fs.take (m + 1))) ∧ w'.heap[w.heap.size]? = some (.cells #[.slice a n cap, .int .i64 max] 29 (0, 0)) ∧ w'.heap[w.heap.size + 1]? = some (.cells #[.slice none 0 0, .int .i64 0] 29 (0, 0)) ∧ Below w.heap.size w w') (first | exact ⟨t1d, hod, hTd, hRd, hBd⟩ | exact keep_fit hbN (by assumption) (by assumption) (by assumption) (by assumption) (by assumption)) ((go_at_call 29; refine (hsz _ (by assumption)).mono ?_; rintro e wN ⟨rfl, hbN⟩))
      go_wp2
      have hoN : wN.ownsRow w.heap.size 37 3 (.slice (some ⟨g, 0, none⟩) (m + 1) c') (m + 1) (cellsF (fs.take (m + 1))) := own_belowT hod hbN
      have hoL := own_less hoN (m := m) (by omega)
      rw [cellsF_take, List.take_take, Nat.min_eq_left (by omega)] at hoL
      exact ⟨⟨m, some ⟨g, 0, none⟩, c', by omega, by omega, rfl, hoL, (hbN.block _ (Array.getElem?_eq_some_iff.1 hTd).1).trans hTd, (hbN.block _ (Array.getElem?_eq_some_iff.1 hRd).1).trans hRd, hBd.trans (hbN.mono hBd.size)⟩, by simp [lenT]⟩
    · have hle : s ≤ max := by omega
      have hke : k = (fitL max fs).length := by
        have := fitL_len max fs k (by omega) (by rw [HSS.out]; exact hle)
        omega
      have HKE : Hid (k = (fitL max fs).length) := hke
      clear hke hgt
      go_wp2
      go_region_held3 (fun w' => w'.cell? ⟨w.heap.size, 1, none⟩ = some (.int .i64 max) ∧ w'.ownsRow w.heap.size 37 3 (.slice a' k c') k (cellsF (fs.take k)) ∧ w'.heap[w.heap.size]? = some (.cells #[.slice a n cap, .int .i64 max] 29 (0, 0)) ∧ w'.heap[w.heap.size + 1]? = some (.cells #[.slice none 0 0, .int .i64 0] 29 (0, 0)) ∧ Below w.heap.size w w') (first | exact ⟨t1d, hod, hTd, hRd, hBd⟩ | exact keep_fit hbN (by assumption) (by assumption) (by assumption) (by assumption) (by assumption)) ((go_at_call 29; refine (hsz _ (by assumption)).mono ?_; rintro e wN ⟨rfl, hbN⟩))
      have hfin : wN.ownsRow w.heap.size 37 3 (.slice a' k c') k (cellsF (fs.take k)) := own_belowT hod hbN
      have hRN : wN.heap[w.heap.size + 1]? = some (.cells #[.slice none 0 0, .int .i64 0] 29 (0, 0)) := (hbN.block _ (Array.getElem?_eq_some_iff.1 hRd).1).trans hRd
      have tN : wN.cell? ⟨w.heap.size, 1, none⟩ = some (.int .i64 max) := (hbN.cell (p := ⟨w.heap.size, 1, none⟩) (World.block_lt_of_cell? _ _ t1d)).trans t1d
      have hBN : Below w.heap.size w wN := hBd.trans (hbN.mono hBd.size)
      go_wp2_with (refine wpList_store_row rfl 29 _ _ rfl (w.heap.size + 1) #[.slice a' k c', .int .i64 max] rfl rfl 29 _ hRN infoT2 rfl (by simp [Value.oneCell']) ?_)
      have hg := grown_setRowT wN (w.heap.size + 1) #[.slice a' k c', .int .i64 max]
      refine bodyPost_ret (results_cell_row rfl _ _ (w.heap.size + 1) 29 #[.slice a' k c', .int .i64 max] (0, 0) _ rfl (setRow_heap _ _ _ _ _ _ hRN) Try.underlying29 rfl infoT2) rfl ⟨_, rfl, ?_, hBN.grown hg (by have := hBN.size; omega) (fun q hq => by injection hq with hq; omega)⟩
      have h1 := hfin.kept hg (.inr (fun e => not_rowT hRN (by decide) hfin e.symm))
      rw [HKE.out, ← fitL_take] at h1
      rw [← HKE.out]
      rw [← HKE.out] at h1
      exact h1
end Go.Proofs.Ytafhpcgdlmkbeay
