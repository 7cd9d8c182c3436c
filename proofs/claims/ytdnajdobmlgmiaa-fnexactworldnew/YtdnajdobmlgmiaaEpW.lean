import Derived.Test.YtdnajdobmlgmiaaEpD
import Derived.Test.YtdnajdobmlgmiaaEpE
import Derived.Test.YtdnajdobmlgmiaaCC
import Derived.Test.YtdnajdobmlgmiaaEnE2
namespace Go.Proofs.Ytdnajdobmlgmiaa
open Go.RowKit
set_option linter.unusedVariables false

/-- The four slices of an end. -/
structure Q4 where
  o : Value
  i : Value
  s : Value
  q : Value
def enL (e : Ed) (x : Q4) : List Value := [.bool e.ans, x.o, .int .i64 e.outM, x.i, .int .i64 e.innM, .string e.came, x.s, .int .i64 e.fl.s, .int .i64 e.fl.r, x.q, .bool e.bad]
def wdL (c a : Ed) (x y : Q4) (up down : ByteArray) : List Value := enL c x ++ (enL a y ++ [.string up, .string down])
abbrev wdC (c a : Ed) (x y : Q4) (up down : ByteArray) : Array Value := (wdL c a x y up down).toArray
abbrev EVq (w : World) (e : Ed) (x : Q4) : Prop := EdV w e x.o x.i x.s x.q
theorem wpList_load_midG {ops : Array Oper} {rest : List Oper} {op : Oper} {a : Act} {w : World} {Q : Exit → Act → World → Prop} (hgd : Region.wanted op (yielded ops a.tmps) = true) (ty : TypeId) (x : Operand) (ho : op.op = .load ty x)
    (b o : Nat) (hx : a.eval x = .pointer (some ⟨b, o, none⟩)) (cs : List Value) (d : TypeDesc) (hc : w.rangeAt b o cs)
    (hu : Try.prog.underlying ty = some d) (hd : d.isRow = true) (hi : (Try.prog.info? ty).map (·.size) = some cs.length)
    (h : wpList Try.prog ops Q rest (a.put op.dst (.agg cs.toArray)) w) : wpList Try.prog ops Q (op :: rest) a w := by
  refine wpList_step fun K hK => ?_
  rw [if_pos hgd]
  exact wp_load_mid ty x ho b o hx cs d hc hu hd hi (hK _ _ h)
theorem infoEdW : (Try.prog.info? 44).map (·.size) = some 11 := by kernel_rfl
theorem infoWd : (Try.prog.info? 32).map (·.size) = some 24 := by kernel_rfl
theorem infoWdL : (Try.prog.info? 46).map (·.size) = some 24 := by kernel_rfl
theorem range_blk {w : World} {g : Nat} {cs : Array Value} {t : TypeId} (h : w.heap[g]? = some (.cells cs t (0, 0))) : w.rangeAt g 0 cs.toList := fun j v hv => by
  rw [Nat.zero_add]
  exact cellE h j v (by simpa using hv)
theorem range_wd1 {w : World} {g : Nat} {c a : Ed} {x y : Q4} {up down : ByteArray} {t : TypeId} (h : w.heap[g]? = some (.cells (wdC c a x y up down) t (0, 0))) : w.rangeAt g 0 (enL c x) := fun j v hv => by
  rw [Nat.zero_add]
  refine cellE h j v ?_
  have hj := (List.getElem?_eq_some_iff.1 hv).1
  show (wdL c a x y up down).toArray[j]? = some v
  rw [List.getElem?_toArray]
  unfold wdL
  rw [List.getElem?_append_left hj]
  exact hv
theorem range_wd2 {w : World} {g : Nat} {c a : Ed} {x y : Q4} {up down : ByteArray} {t : TypeId} (h : w.heap[g]? = some (.cells (wdC c a x y up down) t (0, 0))) : w.rangeAt g 11 (enL a y) := fun j v hv => by
  refine cellE h (11 + j) v ?_
  have hj := (List.getElem?_eq_some_iff.1 hv).1
  show (wdL c a x y up down).toArray[11 + j]? = some v
  rw [List.getElem?_toArray]
  unfold wdL
  have h11 : (enL c x).length = 11 := rfl
  rw [List.getElem?_append_right (by omega), h11, Nat.add_sub_cancel_left, List.getElem?_append_left hj]
  exact hv
theorem edC_oneW {w : World} {e : Ed} {x : Q4} (h : EVq w e x) : ∀ v ∈ enL e x, v.oneCell' = true := by
  obtain ⟨⟨a1, n1, c1, e1, _⟩, ⟨a2, n2, c2, e2, _⟩, ⟨xs, ⟨a3, c3, e3, _⟩, _⟩, ⟨a4, c4, e4, _⟩⟩ := h
  unfold enL
  rw [e1, e2, e3, e4]
  intro v hv
  simp at hv
  rcases hv with rfl | rfl | rfl | rfl | rfl | rfl | rfl | rfl | rfl | rfl | rfl <;> rfl
theorem wdC_one {w : World} {c a : Ed} {x y : Q4} {up down : ByteArray} (h : EVq w c x) (k : EVq w a y) : (wdC c a x y up down).all (·.oneCell') = true := by
  refine all_oneCell_toArray ?_
  intro v hv
  unfold wdL at hv
  rcases List.mem_append.1 hv with hv | hv
  · exact edC_oneW h v hv
  · rcases List.mem_append.1 hv with hv | hv
    · exact edC_oneW k v hv
    · simp at hv
      rcases hv with rfl | rfl <;> rfl
def wdOk (c a : Ed) (up down : ByteArray) : Bool := edOk c && (edOk a && (!c.ans && (a.ans && (decide (up.size ≤ 800) && decide (down.size ≤ 800)))))
/-- A world of which all sizes can be told. -/
structure WdBd (c a : Ed) (up down : ByteArray) : Prop where
  c : EdBd c
  a : EdBd a
  up : up.size ≤ maxLen
  down : down.size ≤ maxLen

set_option maxRecDepth 100000 in
set_option maxHeartbeats 8000000 in
theorem specWorldOk (c a : Ed) (x y : Q4) (up down : ByteArray) (w : World) (hc : EVq w c x) (ha : EVq w a y) (hbd : WdBd c a up down) :
    Calls Try.prog 11 #[.agg (wdC c a x y up down)] w fun r w' => r = .returned (.bool (wdOk c a up down)) ∧ Below w.heap.size w w' := by
  have S0 := (SB.start w).alloc (wdC c a x y up down) 32
  have HS0 : Hid _ := S0
  have hu := hbd.up
  have hd := hbd.down
  unfold maxLen at hu hd
  have p1 := fun W (h : Below w.heap.size w W) => specEndOk c x.o x.i x.s x.q W (EdV.below hc h) hbd.c
  have p2 := fun W (h : Below w.heap.size w W) => specEndOk a y.o y.i y.s y.q W (EdV.below ha h) hbd.a
  have HC : Hid _ := hc
  have HA : Hid _ := ha
  obtain ⟨R, hR⟩ : ∃ R, wdOk c a up down = R := ⟨_, rfl⟩
  have HRR : Hid (wdOk c a up down = R) := hR
  rw [hR]
  clear hR S0 hc ha hbd
  go_enter Try.func11, Try.ntmps11
  go_upto_region 1 with fail
  refine wabsW (fun V => SB w V [(w.heap.size, wdC c a x y up down, 32)]) HS0.out ?_
  clear HS0
  rintro V1 S1
  have HS : Hid _ := S1
  clear S1
  cases h0 : edOk c with
  | false =>
    rw [h0] at p1
    have H0 : Hid _ := h0
    clear h0
    go_wp2_with (first | (refine wpList_load_mid rfl 30 _ rfl w.heap.size 0 rfl (enL c x) _ (range_wd1 (HS.out.at 0 rfl)) Try.underlying30 rfl infoEd ?_) | (go_at_call 20; refine (p1 _ HS.out.bel).mono ?_; clear p1; rintro r w1 ⟨rfl, hb⟩; refine Hid.out ?_))
    refine hidI ?_
    replace HS : Hid _ := HS.out.below hb
    clear hb
    go_wp2
    go_ret
    exact ⟨by rw [← HRR.out]; unfold wdOk; rw [H0.out]; (try simp), HS.out.bel⟩
  | true =>
    rw [h0] at p1
    have H0 : Hid _ := h0
    clear h0
    cases h1 : edOk a with
    | false =>
      rw [h1] at p2
      have H1 : Hid _ := h1
      clear h1
      go_wp2_with (first | (refine wpList_load_mid rfl 30 _ rfl w.heap.size 0 rfl (enL c x) _ (range_wd1 (HS.out.at 0 rfl)) Try.underlying30 rfl infoEd ?_) | (go_at_call 20; refine (p1 _ HS.out.bel).mono ?_; clear p1; rintro r w1 ⟨rfl, hb⟩; refine Hid.out ?_))
      refine hidI ?_
      replace HS : Hid _ := HS.out.below hb
      clear hb
      go_wp2_with (first | (refine wpList_load_midG rfl 30 _ rfl w.heap.size 11 rfl (enL a y) _ (range_wd2 (HS.out.at 0 rfl)) Try.underlying30 rfl infoEd ?_) | (go_at_call 20; refine (p2 _ HS.out.bel).mono ?_; clear p2; rintro r w2 ⟨rfl, hb⟩; refine Hid.out ?_))
      refine hidI ?_
      replace HS : Hid _ := HS.out.below hb
      clear hb
      go_wp2
      go_ret
      exact ⟨by rw [← HRR.out]; unfold wdOk; rw [H1.out]; (try simp), HS.out.bel⟩
    | true =>
      rw [h1] at p2
      have H1 : Hid _ := h1
      clear h1
      cases x0 : c.ans with
      | true =>
        have HX0 : Hid _ := x0
        clear x0
        go_wp2_with (first | (refine wpList_load_mid rfl 30 _ rfl w.heap.size 0 rfl (enL c x) _ (range_wd1 (HS.out.at 0 rfl)) Try.underlying30 rfl infoEd ?_) | (go_at_call 20; refine (p1 _ HS.out.bel).mono ?_; clear p1; rintro r w1 ⟨rfl, hb⟩; refine Hid.out ?_))
        refine hidI ?_
        replace HS : Hid _ := HS.out.below hb
        clear hb
        go_wp2_with (first | (refine wpList_load_midG rfl 30 _ rfl w.heap.size 11 rfl (enL a y) _ (range_wd2 (HS.out.at 0 rfl)) Try.underlying30 rfl infoEd ?_) | (go_at_call 20; refine (p2 _ HS.out.bel).mono ?_; clear p2; rintro r w2 ⟨rfl, hb⟩; refine Hid.out ?_))
        refine hidI ?_
        replace HS : Hid _ := HS.out.below hb
        clear hb
        have q0 := cellE (HS.out.at 0 rfl) 0 (.bool c.ans) rfl
        rw [HX0.out] at q0
        go_wp2
        go_ret
        exact ⟨by rw [← HRR.out]; unfold wdOk; rw [HX0.out]; (try simp), HS.out.bel⟩
      | false =>
        have HX0 : Hid _ := x0
        clear x0
        cases x1 : a.ans with
        | false =>
          have HX1 : Hid _ := x1
          clear x1
          go_wp2_with (first | (refine wpList_load_mid rfl 30 _ rfl w.heap.size 0 rfl (enL c x) _ (range_wd1 (HS.out.at 0 rfl)) Try.underlying30 rfl infoEd ?_) | (go_at_call 20; refine (p1 _ HS.out.bel).mono ?_; clear p1; rintro r w1 ⟨rfl, hb⟩; refine Hid.out ?_))
          refine hidI ?_
          replace HS : Hid _ := HS.out.below hb
          clear hb
          go_wp2_with (first | (refine wpList_load_midG rfl 30 _ rfl w.heap.size 11 rfl (enL a y) _ (range_wd2 (HS.out.at 0 rfl)) Try.underlying30 rfl infoEd ?_) | (go_at_call 20; refine (p2 _ HS.out.bel).mono ?_; clear p2; rintro r w2 ⟨rfl, hb⟩; refine Hid.out ?_))
          refine hidI ?_
          replace HS : Hid _ := HS.out.below hb
          clear hb
          have q0 := cellE (HS.out.at 0 rfl) 0 (.bool c.ans) rfl
          have q11 := cellE (HS.out.at 0 rfl) 11 (.bool a.ans) rfl
          rw [HX0.out] at q0
          rw [HX1.out] at q11
          go_wp2
          go_ret
          exact ⟨by rw [← HRR.out]; unfold wdOk; rw [HX1.out]; (try simp), HS.out.bel⟩
        | true =>
          have HX1 : Hid _ := x1
          clear x1
          by_cases hu8 : up.size ≤ 800
          rotate_left
          · have hux : ¬ (up.size : Int) ≤ 800 := by omega
            have HU : Hid _ := hu8
            clear hu8
            go_wp2_with (first | (refine wpList_load_mid rfl 30 _ rfl w.heap.size 0 rfl (enL c x) _ (range_wd1 (HS.out.at 0 rfl)) Try.underlying30 rfl infoEd ?_) | (go_at_call 20; refine (p1 _ HS.out.bel).mono ?_; clear p1; rintro r w1 ⟨rfl, hb⟩; refine Hid.out ?_))
            refine hidI ?_
            replace HS : Hid _ := HS.out.below hb
            clear hb
            go_wp2_with (first | (refine wpList_load_midG rfl 30 _ rfl w.heap.size 11 rfl (enL a y) _ (range_wd2 (HS.out.at 0 rfl)) Try.underlying30 rfl infoEd ?_) | (go_at_call 20; refine (p2 _ HS.out.bel).mono ?_; clear p2; rintro r w2 ⟨rfl, hb⟩; refine Hid.out ?_))
            refine hidI ?_
            replace HS : Hid _ := HS.out.below hb
            clear hb
            have q0 := cellE (HS.out.at 0 rfl) 0 (.bool c.ans) rfl
            have q11 := cellE (HS.out.at 0 rfl) 11 (.bool a.ans) rfl
            have q22 := cellE (HS.out.at 0 rfl) 22 (.string up) rfl
            rw [HX0.out] at q0
            rw [HX1.out] at q11
            go_wp2
            go_ret
            exact ⟨by rw [← HRR.out]; unfold wdOk; rw [show decide (up.size ≤ 800) = false by rw [decide_eq_false_iff_not]; exact HU.out]; (try simp), HS.out.bel⟩
          have hux : (up.size : Int) ≤ 800 := by omega
          have HU : Hid _ := hu8
          clear hu8
          by_cases hd8 : down.size ≤ 800
          rotate_left
          · have hdx : ¬ (down.size : Int) ≤ 800 := by omega
            have HD : Hid _ := hd8
            clear hd8
            go_wp2_with (first | (refine wpList_load_mid rfl 30 _ rfl w.heap.size 0 rfl (enL c x) _ (range_wd1 (HS.out.at 0 rfl)) Try.underlying30 rfl infoEd ?_) | (go_at_call 20; refine (p1 _ HS.out.bel).mono ?_; clear p1; rintro r w1 ⟨rfl, hb⟩; refine Hid.out ?_))
            refine hidI ?_
            replace HS : Hid _ := HS.out.below hb
            clear hb
            go_wp2_with (first | (refine wpList_load_midG rfl 30 _ rfl w.heap.size 11 rfl (enL a y) _ (range_wd2 (HS.out.at 0 rfl)) Try.underlying30 rfl infoEd ?_) | (go_at_call 20; refine (p2 _ HS.out.bel).mono ?_; clear p2; rintro r w2 ⟨rfl, hb⟩; refine Hid.out ?_))
            refine hidI ?_
            replace HS : Hid _ := HS.out.below hb
            clear hb
            have q0 := cellE (HS.out.at 0 rfl) 0 (.bool c.ans) rfl
            have q11 := cellE (HS.out.at 0 rfl) 11 (.bool a.ans) rfl
            have q22 := cellE (HS.out.at 0 rfl) 22 (.string up) rfl
            have q23 := cellE (HS.out.at 0 rfl) 23 (.string down) rfl
            rw [HX0.out] at q0
            rw [HX1.out] at q11
            go_wp2
            go_ret
            exact ⟨by rw [← HRR.out]; unfold wdOk; rw [show decide (down.size ≤ 800) = false by rw [decide_eq_false_iff_not]; exact HD.out]; (try simp); (try omega), HS.out.bel⟩
          have hdx : (down.size : Int) ≤ 800 := by omega
          have HD : Hid _ := hd8
          clear hd8
          go_wp2_with (first | (refine wpList_load_mid rfl 30 _ rfl w.heap.size 0 rfl (enL c x) _ (range_wd1 (HS.out.at 0 rfl)) Try.underlying30 rfl infoEd ?_) | (go_at_call 20; refine (p1 _ HS.out.bel).mono ?_; clear p1; rintro r w1 ⟨rfl, hb⟩; refine Hid.out ?_))
          refine hidI ?_
          replace HS : Hid _ := HS.out.below hb
          clear hb
          go_wp2_with (first | (refine wpList_load_midG rfl 30 _ rfl w.heap.size 11 rfl (enL a y) _ (range_wd2 (HS.out.at 0 rfl)) Try.underlying30 rfl infoEd ?_) | (go_at_call 20; refine (p2 _ HS.out.bel).mono ?_; clear p2; rintro r w2 ⟨rfl, hb⟩; refine Hid.out ?_))
          refine hidI ?_
          replace HS : Hid _ := HS.out.below hb
          clear hb
          have q0 := cellE (HS.out.at 0 rfl) 0 (.bool c.ans) rfl
          have q11 := cellE (HS.out.at 0 rfl) 11 (.bool a.ans) rfl
          have q22 := cellE (HS.out.at 0 rfl) 22 (.string up) rfl
          have q23 := cellE (HS.out.at 0 rfl) 23 (.string down) rfl
          rw [HX0.out] at q0
          rw [HX1.out] at q11
          go_wp2
          go_ret
          exact ⟨by rw [← HRR.out]; unfold wdOk; rw [H0.out, H1.out, HX0.out, HX1.out, show decide (up.size ≤ 800) = true by simpa using HU.out, show decide (down.size ≤ 800) = true by simpa using HD.out]; rfl, HS.out.bel⟩

set_option maxRecDepth 100000 in
set_option maxHeartbeats 8000000 in
theorem implWorldOk (c a : Ed) (x y : Q4) (up down : ByteArray) (w : World) (hc : EVq w c x) (ha : EVq w a y) (hbd : WdBd c a up down) :
    Calls Try.prog 13 #[.agg (wdC c a x y up down)] w fun r w' => r = .returned (.bool (wdOk c a up down)) ∧ Below w.heap.size w w' := by
  have S0 := (SB.start w).alloc (wdC c a x y up down) 32
  have HS0 : Hid _ := S0
  have hu := hbd.up
  have hd := hbd.down
  unfold maxLen at hu hd
  have p1 := fun W (h : Below w.heap.size w W) => implEndOk c x.o x.i x.s x.q W (EdV.below hc h) hbd.c
  have p2 := fun W (h : Below w.heap.size w W) => implEndOk a y.o y.i y.s y.q W (EdV.below ha h) hbd.a
  have HC : Hid _ := hc
  have HA : Hid _ := ha
  obtain ⟨R, hR⟩ : ∃ R, wdOk c a up down = R := ⟨_, rfl⟩
  have HRR : Hid (wdOk c a up down = R) := hR
  rw [hR]
  clear hR S0 hc ha hbd
  go_enter Try.func13, Try.ntmps13
  go_upto_region 1 with fail
  refine wabsW (fun V => SB w V [(w.heap.size, wdC c a x y up down, 32)]) HS0.out ?_
  clear HS0
  rintro V1 S1
  have HS : Hid _ := S1
  clear S1
  cases h0 : edOk c with
  | false =>
    rw [h0] at p1
    have H0 : Hid _ := h0
    clear h0
    go_wp2_with (first | (refine wpList_load_mid rfl 30 _ rfl w.heap.size 0 rfl (enL c x) _ (range_wd1 (HS.out.at 0 rfl)) Try.underlying30 rfl infoEd ?_) | (go_at_call 22; refine (p1 _ HS.out.bel).mono ?_; clear p1; rintro r w1 ⟨rfl, hb⟩; refine Hid.out ?_))
    refine hidI ?_
    replace HS : Hid _ := HS.out.below hb
    clear hb
    go_wp2
    go_ret
    exact ⟨by rw [← HRR.out]; unfold wdOk; rw [H0.out]; (try simp), HS.out.bel⟩
  | true =>
    rw [h0] at p1
    have H0 : Hid _ := h0
    clear h0
    cases h1 : edOk a with
    | false =>
      rw [h1] at p2
      have H1 : Hid _ := h1
      clear h1
      go_wp2_with (first | (refine wpList_load_mid rfl 30 _ rfl w.heap.size 0 rfl (enL c x) _ (range_wd1 (HS.out.at 0 rfl)) Try.underlying30 rfl infoEd ?_) | (go_at_call 22; refine (p1 _ HS.out.bel).mono ?_; clear p1; rintro r w1 ⟨rfl, hb⟩; refine Hid.out ?_))
      refine hidI ?_
      replace HS : Hid _ := HS.out.below hb
      clear hb
      go_wp2_with (first | (refine wpList_load_midG rfl 30 _ rfl w.heap.size 11 rfl (enL a y) _ (range_wd2 (HS.out.at 0 rfl)) Try.underlying30 rfl infoEd ?_) | (go_at_call 22; refine (p2 _ HS.out.bel).mono ?_; clear p2; rintro r w2 ⟨rfl, hb⟩; refine Hid.out ?_))
      refine hidI ?_
      replace HS : Hid _ := HS.out.below hb
      clear hb
      go_wp2
      go_ret
      exact ⟨by rw [← HRR.out]; unfold wdOk; rw [H1.out]; (try simp), HS.out.bel⟩
    | true =>
      rw [h1] at p2
      have H1 : Hid _ := h1
      clear h1
      cases x0 : c.ans with
      | true =>
        have HX0 : Hid _ := x0
        clear x0
        go_wp2_with (first | (refine wpList_load_mid rfl 30 _ rfl w.heap.size 0 rfl (enL c x) _ (range_wd1 (HS.out.at 0 rfl)) Try.underlying30 rfl infoEd ?_) | (go_at_call 22; refine (p1 _ HS.out.bel).mono ?_; clear p1; rintro r w1 ⟨rfl, hb⟩; refine Hid.out ?_))
        refine hidI ?_
        replace HS : Hid _ := HS.out.below hb
        clear hb
        go_wp2_with (first | (refine wpList_load_midG rfl 30 _ rfl w.heap.size 11 rfl (enL a y) _ (range_wd2 (HS.out.at 0 rfl)) Try.underlying30 rfl infoEd ?_) | (go_at_call 22; refine (p2 _ HS.out.bel).mono ?_; clear p2; rintro r w2 ⟨rfl, hb⟩; refine Hid.out ?_))
        refine hidI ?_
        replace HS : Hid _ := HS.out.below hb
        clear hb
        have q0 := cellE (HS.out.at 0 rfl) 0 (.bool c.ans) rfl
        rw [HX0.out] at q0
        go_wp2
        go_ret
        exact ⟨by rw [← HRR.out]; unfold wdOk; rw [HX0.out]; (try simp), HS.out.bel⟩
      | false =>
        have HX0 : Hid _ := x0
        clear x0
        cases x1 : a.ans with
        | false =>
          have HX1 : Hid _ := x1
          clear x1
          go_wp2_with (first | (refine wpList_load_mid rfl 30 _ rfl w.heap.size 0 rfl (enL c x) _ (range_wd1 (HS.out.at 0 rfl)) Try.underlying30 rfl infoEd ?_) | (go_at_call 22; refine (p1 _ HS.out.bel).mono ?_; clear p1; rintro r w1 ⟨rfl, hb⟩; refine Hid.out ?_))
          refine hidI ?_
          replace HS : Hid _ := HS.out.below hb
          clear hb
          go_wp2_with (first | (refine wpList_load_midG rfl 30 _ rfl w.heap.size 11 rfl (enL a y) _ (range_wd2 (HS.out.at 0 rfl)) Try.underlying30 rfl infoEd ?_) | (go_at_call 22; refine (p2 _ HS.out.bel).mono ?_; clear p2; rintro r w2 ⟨rfl, hb⟩; refine Hid.out ?_))
          refine hidI ?_
          replace HS : Hid _ := HS.out.below hb
          clear hb
          have q0 := cellE (HS.out.at 0 rfl) 0 (.bool c.ans) rfl
          have q11 := cellE (HS.out.at 0 rfl) 11 (.bool a.ans) rfl
          rw [HX0.out] at q0
          rw [HX1.out] at q11
          go_wp2
          go_ret
          exact ⟨by rw [← HRR.out]; unfold wdOk; rw [HX1.out]; (try simp), HS.out.bel⟩
        | true =>
          have HX1 : Hid _ := x1
          clear x1
          by_cases hu8 : up.size ≤ 800
          rotate_left
          · have hux : ¬ (up.size : Int) ≤ 800 := by omega
            have HU : Hid _ := hu8
            clear hu8
            go_wp2_with (first | (refine wpList_load_mid rfl 30 _ rfl w.heap.size 0 rfl (enL c x) _ (range_wd1 (HS.out.at 0 rfl)) Try.underlying30 rfl infoEd ?_) | (go_at_call 22; refine (p1 _ HS.out.bel).mono ?_; clear p1; rintro r w1 ⟨rfl, hb⟩; refine Hid.out ?_))
            refine hidI ?_
            replace HS : Hid _ := HS.out.below hb
            clear hb
            go_wp2_with (first | (refine wpList_load_midG rfl 30 _ rfl w.heap.size 11 rfl (enL a y) _ (range_wd2 (HS.out.at 0 rfl)) Try.underlying30 rfl infoEd ?_) | (go_at_call 22; refine (p2 _ HS.out.bel).mono ?_; clear p2; rintro r w2 ⟨rfl, hb⟩; refine Hid.out ?_))
            refine hidI ?_
            replace HS : Hid _ := HS.out.below hb
            clear hb
            have q0 := cellE (HS.out.at 0 rfl) 0 (.bool c.ans) rfl
            have q11 := cellE (HS.out.at 0 rfl) 11 (.bool a.ans) rfl
            have q22 := cellE (HS.out.at 0 rfl) 22 (.string up) rfl
            rw [HX0.out] at q0
            rw [HX1.out] at q11
            go_wp2
            go_ret
            exact ⟨by rw [← HRR.out]; unfold wdOk; rw [show decide (up.size ≤ 800) = false by rw [decide_eq_false_iff_not]; exact HU.out]; (try simp), HS.out.bel⟩
          have hux : (up.size : Int) ≤ 800 := by omega
          have HU : Hid _ := hu8
          clear hu8
          by_cases hd8 : down.size ≤ 800
          rotate_left
          · have hdx : ¬ (down.size : Int) ≤ 800 := by omega
            have HD : Hid _ := hd8
            clear hd8
            go_wp2_with (first | (refine wpList_load_mid rfl 30 _ rfl w.heap.size 0 rfl (enL c x) _ (range_wd1 (HS.out.at 0 rfl)) Try.underlying30 rfl infoEd ?_) | (go_at_call 22; refine (p1 _ HS.out.bel).mono ?_; clear p1; rintro r w1 ⟨rfl, hb⟩; refine Hid.out ?_))
            refine hidI ?_
            replace HS : Hid _ := HS.out.below hb
            clear hb
            go_wp2_with (first | (refine wpList_load_midG rfl 30 _ rfl w.heap.size 11 rfl (enL a y) _ (range_wd2 (HS.out.at 0 rfl)) Try.underlying30 rfl infoEd ?_) | (go_at_call 22; refine (p2 _ HS.out.bel).mono ?_; clear p2; rintro r w2 ⟨rfl, hb⟩; refine Hid.out ?_))
            refine hidI ?_
            replace HS : Hid _ := HS.out.below hb
            clear hb
            have q0 := cellE (HS.out.at 0 rfl) 0 (.bool c.ans) rfl
            have q11 := cellE (HS.out.at 0 rfl) 11 (.bool a.ans) rfl
            have q22 := cellE (HS.out.at 0 rfl) 22 (.string up) rfl
            have q23 := cellE (HS.out.at 0 rfl) 23 (.string down) rfl
            rw [HX0.out] at q0
            rw [HX1.out] at q11
            go_wp2
            go_ret
            exact ⟨by rw [← HRR.out]; unfold wdOk; rw [show decide (down.size ≤ 800) = false by rw [decide_eq_false_iff_not]; exact HD.out]; (try simp); (try omega), HS.out.bel⟩
          have hdx : (down.size : Int) ≤ 800 := by omega
          have HD : Hid _ := hd8
          clear hd8
          go_wp2_with (first | (refine wpList_load_mid rfl 30 _ rfl w.heap.size 0 rfl (enL c x) _ (range_wd1 (HS.out.at 0 rfl)) Try.underlying30 rfl infoEd ?_) | (go_at_call 22; refine (p1 _ HS.out.bel).mono ?_; clear p1; rintro r w1 ⟨rfl, hb⟩; refine Hid.out ?_))
          refine hidI ?_
          replace HS : Hid _ := HS.out.below hb
          clear hb
          go_wp2_with (first | (refine wpList_load_midG rfl 30 _ rfl w.heap.size 11 rfl (enL a y) _ (range_wd2 (HS.out.at 0 rfl)) Try.underlying30 rfl infoEd ?_) | (go_at_call 22; refine (p2 _ HS.out.bel).mono ?_; clear p2; rintro r w2 ⟨rfl, hb⟩; refine Hid.out ?_))
          refine hidI ?_
          replace HS : Hid _ := HS.out.below hb
          clear hb
          have q0 := cellE (HS.out.at 0 rfl) 0 (.bool c.ans) rfl
          have q11 := cellE (HS.out.at 0 rfl) 11 (.bool a.ans) rfl
          have q22 := cellE (HS.out.at 0 rfl) 22 (.string up) rfl
          have q23 := cellE (HS.out.at 0 rfl) 23 (.string down) rfl
          rw [HX0.out] at q0
          rw [HX1.out] at q11
          go_wp2
          go_ret
          exact ⟨by rw [← HRR.out]; unfold wdOk; rw [H0.out, H1.out, HX0.out, HX1.out, show decide (up.size ≤ 800) = true by simpa using HU.out, show decide (down.size ≤ 800) = true by simpa using HD.out]; rfl, HS.out.bel⟩
end Go.Proofs.Ytdnajdobmlgmiaa
