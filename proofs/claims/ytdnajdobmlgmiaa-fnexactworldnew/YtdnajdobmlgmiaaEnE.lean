import Derived.Test.YtdnajdobmlgmiaaEdE1
import Derived.Test.YtdnajdobmlgmiaaFI1
import Derived.Test.YtdnajdobmlgmiaaFlI1
import Derived.Test.YtdnajdobmlgmiaaBO
import Derived.Test.YtdnajdobmlgmiaaBJ
import Derived.Test.YtdnajdobmlgmiaaBG
namespace Go.Proofs.Ytdnajdobmlgmiaa
open Go.RowKit
set_option linter.unusedVariables false

set_option maxRecDepth 100000 in
set_option maxHeartbeats 8000000 in
theorem streamOk_any (s : Sm) (ah ag : Option Addr) (nh ch ng cg : Nat) (w : World) (fh : Fs w ah nh ch s.head) (fg : Fs w ag ng cg s.got) (hbd : SmBd s) :
    Calls Try.prog 68 #[.agg (smC s (.slice ah nh ch) (.slice ag ng cg)).toArray] w fun e w' => e = .returned (.bool (smOk s)) ∧ Below w.heap.size w w' := by
  have hsz := hbd.say
  unfold maxLen at hsz
  have hB : Below w.heap.size w (w.alloc (.cells (smC s (.slice ah nh ch) (.slice ag ng cg)).toArray 70)) := (Below.refl _ _).alloc (Nat.le_refl _) _
  have hR : (w.alloc (.cells (smC s (.slice ah nh ch) (.slice ag ng cg)).toArray 70)).heap[w.heap.size]? = some (.cells (smC s (.slice ah nh ch) (.slice ag ng cg)).toArray 70 (0, 0)) := heap_alloc_last w _
  have HFH : Hid _ := fh
  have HFG : Hid _ := fg
  clear fh fg
  unfold smOk
  have c1 := fun w => streamId_any s.id w
  have c3 := fun W (h : Fs W ah nh ch s.head) => implHeadOk s.head ah nh ch W h hbd.hb (by have := hbd.hl; have := h.len; omega)
  have c4 := fun W (h : Fs W ag ng cg s.got) => implHeadOk s.got ag ng cg W h hbd.gb (by have := hbd.gl; have := h.len; omega)
  have c5 := fun w => implOk s.say w hbd.say
  have c6 := fun w => implOk s.text w hbd.text
  have c8 := fun w => implFlowOk s.fl w
  unfold wB at *
  unfold Fw.val at c8
  cases h0 : strm s.id with
  | false =>
    rw [h0] at c1
    clear h0
    simp only [Bool.false_and]
    go_enter Try.func68, Try.ntmps68
    have q0_0 := cellE hR 0 (.int .i64 s.id) rfl
    go_wp2_with fail
    refine (c1 _).mono ?_
    rintro e w0 ⟨rfl, rfl⟩
    clear q0_0
    go_wp2
    go_ret
    exact ⟨rfl, hB⟩
  | true =>
    rw [h0] at c1
    cases h1 : decide (1 ≤ s.st ∧ s.st ≤ 3) with
    | false =>
      have hn := of_decide_eq_false h1
      clear h0 h1
      simp only [Bool.false_and, Bool.and_false]
      by_cases hlo : 1 ≤ s.st
      · have hhi : ¬ s.st ≤ 3 := fun h => hn ⟨hlo, h⟩
        clear hn
        go_enter Try.func68, Try.ntmps68
        have q0_0 := cellE hR 0 (.int .i64 s.id) rfl
        go_wp2_with fail
        refine (c1 _).mono ?_
        rintro e w0 ⟨rfl, rfl⟩
        clear q0_0
        have q1_1 := cellE hR 1 (.int .i64 s.st) rfl
        go_wp2
        go_ret
        exact ⟨rfl, hB⟩
      · clear hn
        go_enter Try.func68, Try.ntmps68
        have q0_0 := cellE hR 0 (.int .i64 s.id) rfl
        go_wp2_with fail
        refine (c1 _).mono ?_
        rintro e w0 ⟨rfl, rfl⟩
        clear q0_0
        have q1_1 := cellE hR 1 (.int .i64 s.st) rfl
        go_wp2
        go_ret
        exact ⟨rfl, hB⟩
    | true =>
      obtain ⟨lo1, hi1⟩ := of_decide_eq_true h1
      cases h2 : hOk s.head with
      | false =>
        rw [h2] at c3
        clear h0 h1 h2
        simp only [Bool.false_and, Bool.and_false]
        go_enter Try.func68, Try.ntmps68
        have q0_0 := cellE hR 0 (.int .i64 s.id) rfl
        go_wp2_with fail
        refine (c1 _).mono ?_
        rintro e w0 ⟨rfl, rfl⟩
        clear q0_0
        have q1_1 := cellE hR 1 (.int .i64 s.st) rfl
        have q2_2 := cellE hR 2 (.slice ah nh ch) rfl
        go_wp2_with fail
        refine (c3 _ (HFH.out.below hB)).mono ?_
        rintro e w2 ⟨rfl, hb⟩
        clear q1_1 q2_2
        replace hR := blkF hb hR
        replace hB := btF hB hb
        clear hb
        go_wp2
        go_ret
        exact ⟨rfl, hB⟩
      | true =>
        rw [h2] at c3
        cases h3 : hOk s.got with
        | false =>
          rw [h3] at c4
          clear h0 h1 h2 h3
          simp only [Bool.false_and, Bool.and_false]
          go_enter Try.func68, Try.ntmps68
          have q0_0 := cellE hR 0 (.int .i64 s.id) rfl
          go_wp2_with fail
          refine (c1 _).mono ?_
          rintro e w0 ⟨rfl, rfl⟩
          clear q0_0
          have q1_1 := cellE hR 1 (.int .i64 s.st) rfl
          have q2_2 := cellE hR 2 (.slice ah nh ch) rfl
          go_wp2_with fail
          refine (c3 _ (HFH.out.below hB)).mono ?_
          rintro e w2 ⟨rfl, hb⟩
          clear q1_1 q2_2
          replace hR := blkF hb hR
          replace hB := btF hB hb
          clear hb
          have q3_7 := cellE hR 7 (.slice ag ng cg) rfl
          go_wp2_with fail
          refine (c4 _ (HFG.out.below hB)).mono ?_
          rintro e w3 ⟨rfl, hb⟩
          clear q3_7
          replace hR := blkF hb hR
          replace hB := btF hB hb
          clear hb
          go_wp2
          go_ret
          exact ⟨rfl, hB⟩
        | true =>
          rw [h3] at c4
          cases h4 : wOk (bytesL s.say) with
          | false =>
            rw [h4] at c5
            clear h0 h1 h2 h3 h4
            simp only [Bool.false_and, Bool.and_false]
            go_enter Try.func68, Try.ntmps68
            have q0_0 := cellE hR 0 (.int .i64 s.id) rfl
            go_wp2_with fail
            refine (c1 _).mono ?_
            rintro e w0 ⟨rfl, rfl⟩
            clear q0_0
            have q1_1 := cellE hR 1 (.int .i64 s.st) rfl
            have q2_2 := cellE hR 2 (.slice ah nh ch) rfl
            go_wp2_with fail
            refine (c3 _ (HFH.out.below hB)).mono ?_
            rintro e w2 ⟨rfl, hb⟩
            clear q1_1 q2_2
            replace hR := blkF hb hR
            replace hB := btF hB hb
            clear hb
            have q3_7 := cellE hR 7 (.slice ag ng cg) rfl
            go_wp2_with fail
            refine (c4 _ (HFG.out.below hB)).mono ?_
            rintro e w3 ⟨rfl, hb⟩
            clear q3_7
            replace hR := blkF hb hR
            replace hB := btF hB hb
            clear hb
            have q4_3 := cellE hR 3 (.string s.say) rfl
            go_wp2_with fail
            refine (c5 _).mono ?_
            rintro e w4 ⟨rfl, hb⟩
            clear q4_3
            replace hR := blkF hb hR
            replace hB := btF hB hb
            clear hb
            go_wp2
            go_ret
            exact ⟨rfl, hB⟩
          | true =>
            rw [h4] at c5
            cases h5 : wOk (bytesL s.text) with
            | false =>
              rw [h5] at c6
              clear h0 h1 h2 h3 h4 h5
              simp only [Bool.false_and, Bool.and_false]
              go_enter Try.func68, Try.ntmps68
              have q0_0 := cellE hR 0 (.int .i64 s.id) rfl
              go_wp2_with fail
              refine (c1 _).mono ?_
              rintro e w0 ⟨rfl, rfl⟩
              clear q0_0
              have q1_1 := cellE hR 1 (.int .i64 s.st) rfl
              have q2_2 := cellE hR 2 (.slice ah nh ch) rfl
              go_wp2_with fail
              refine (c3 _ (HFH.out.below hB)).mono ?_
              rintro e w2 ⟨rfl, hb⟩
              clear q1_1 q2_2
              replace hR := blkF hb hR
              replace hB := btF hB hb
              clear hb
              have q3_7 := cellE hR 7 (.slice ag ng cg) rfl
              go_wp2_with fail
              refine (c4 _ (HFG.out.below hB)).mono ?_
              rintro e w3 ⟨rfl, hb⟩
              clear q3_7
              replace hR := blkF hb hR
              replace hB := btF hB hb
              clear hb
              have q4_3 := cellE hR 3 (.string s.say) rfl
              go_wp2_with fail
              refine (c5 _).mono ?_
              rintro e w4 ⟨rfl, hb⟩
              clear q4_3
              replace hR := blkF hb hR
              replace hB := btF hB hb
              clear hb
              have q5_8 := cellE hR 8 (.string s.text) rfl
              go_wp2_with fail
              refine (c6 _).mono ?_
              rintro e w5 ⟨rfl, hb⟩
              clear q5_8
              replace hR := blkF hb hR
              replace hB := btF hB hb
              clear hb
              go_wp2
              go_ret
              exact ⟨rfl, hB⟩
            | true =>
              rw [h5] at c6
              cases h6 : decide (0 ≤ s.sent ∧ s.sent ≤ s.say.size) with
              | false =>
                have hn := of_decide_eq_false h6
                clear h0 h1 h2 h3 h4 h5 h6
                simp only [Bool.false_and, Bool.and_false]
                by_cases hlo : 0 ≤ s.sent
                · have hhi : ¬ s.sent ≤ (s.say.size : Int) := fun h => hn ⟨hlo, h⟩
                  clear hn
                  go_enter Try.func68, Try.ntmps68
                  have q0_0 := cellE hR 0 (.int .i64 s.id) rfl
                  go_wp2_with fail
                  refine (c1 _).mono ?_
                  rintro e w0 ⟨rfl, rfl⟩
                  clear q0_0
                  have q1_1 := cellE hR 1 (.int .i64 s.st) rfl
                  have q2_2 := cellE hR 2 (.slice ah nh ch) rfl
                  go_wp2_with fail
                  refine (c3 _ (HFH.out.below hB)).mono ?_
                  rintro e w2 ⟨rfl, hb⟩
                  clear q1_1 q2_2
                  replace hR := blkF hb hR
                  replace hB := btF hB hb
                  clear hb
                  have q3_7 := cellE hR 7 (.slice ag ng cg) rfl
                  go_wp2_with fail
                  refine (c4 _ (HFG.out.below hB)).mono ?_
                  rintro e w3 ⟨rfl, hb⟩
                  clear q3_7
                  replace hR := blkF hb hR
                  replace hB := btF hB hb
                  clear hb
                  have q4_3 := cellE hR 3 (.string s.say) rfl
                  go_wp2_with fail
                  refine (c5 _).mono ?_
                  rintro e w4 ⟨rfl, hb⟩
                  clear q4_3
                  replace hR := blkF hb hR
                  replace hB := btF hB hb
                  clear hb
                  have q5_8 := cellE hR 8 (.string s.text) rfl
                  go_wp2_with fail
                  refine (c6 _).mono ?_
                  rintro e w5 ⟨rfl, hb⟩
                  clear q5_8
                  replace hR := blkF hb hR
                  replace hB := btF hB hb
                  clear hb
                  have q6_6 := cellE hR 6 (.int .i64 s.sent) rfl
                  have q6_3 := cellE hR 3 (.string s.say) rfl
                  go_wp2
                  go_ret
                  exact ⟨rfl, hB⟩
                · clear hn
                  go_enter Try.func68, Try.ntmps68
                  have q0_0 := cellE hR 0 (.int .i64 s.id) rfl
                  go_wp2_with fail
                  refine (c1 _).mono ?_
                  rintro e w0 ⟨rfl, rfl⟩
                  clear q0_0
                  have q1_1 := cellE hR 1 (.int .i64 s.st) rfl
                  have q2_2 := cellE hR 2 (.slice ah nh ch) rfl
                  go_wp2_with fail
                  refine (c3 _ (HFH.out.below hB)).mono ?_
                  rintro e w2 ⟨rfl, hb⟩
                  clear q1_1 q2_2
                  replace hR := blkF hb hR
                  replace hB := btF hB hb
                  clear hb
                  have q3_7 := cellE hR 7 (.slice ag ng cg) rfl
                  go_wp2_with fail
                  refine (c4 _ (HFG.out.below hB)).mono ?_
                  rintro e w3 ⟨rfl, hb⟩
                  clear q3_7
                  replace hR := blkF hb hR
                  replace hB := btF hB hb
                  clear hb
                  have q4_3 := cellE hR 3 (.string s.say) rfl
                  go_wp2_with fail
                  refine (c5 _).mono ?_
                  rintro e w4 ⟨rfl, hb⟩
                  clear q4_3
                  replace hR := blkF hb hR
                  replace hB := btF hB hb
                  clear hb
                  have q5_8 := cellE hR 8 (.string s.text) rfl
                  go_wp2_with fail
                  refine (c6 _).mono ?_
                  rintro e w5 ⟨rfl, hb⟩
                  clear q5_8
                  replace hR := blkF hb hR
                  replace hB := btF hB hb
                  clear hb
                  have q6_6 := cellE hR 6 (.int .i64 s.sent) rfl
                  have q6_3 := cellE hR 3 (.string s.say) rfl
                  go_wp2
                  go_ret
                  exact ⟨rfl, hB⟩
              | true =>
                obtain ⟨lo6, hi6⟩ := of_decide_eq_true h6
                cases h7 : flOk s.fl with
                | false =>
                  rw [h7] at c8
                  clear h0 h1 h2 h3 h4 h5 h6 h7
                  simp only [Bool.and_false]
                  go_enter Try.func68, Try.ntmps68
                  have q0_0 := cellE hR 0 (.int .i64 s.id) rfl
                  go_wp2_with fail
                  refine (c1 _).mono ?_
                  rintro e w0 ⟨rfl, rfl⟩
                  clear q0_0
                  have q1_1 := cellE hR 1 (.int .i64 s.st) rfl
                  have q2_2 := cellE hR 2 (.slice ah nh ch) rfl
                  go_wp2_with fail
                  refine (c3 _ (HFH.out.below hB)).mono ?_
                  rintro e w2 ⟨rfl, hb⟩
                  clear q1_1 q2_2
                  replace hR := blkF hb hR
                  replace hB := btF hB hb
                  clear hb
                  have q3_7 := cellE hR 7 (.slice ag ng cg) rfl
                  go_wp2_with fail
                  refine (c4 _ (HFG.out.below hB)).mono ?_
                  rintro e w3 ⟨rfl, hb⟩
                  clear q3_7
                  replace hR := blkF hb hR
                  replace hB := btF hB hb
                  clear hb
                  have q4_3 := cellE hR 3 (.string s.say) rfl
                  go_wp2_with fail
                  refine (c5 _).mono ?_
                  rintro e w4 ⟨rfl, hb⟩
                  clear q4_3
                  replace hR := blkF hb hR
                  replace hB := btF hB hb
                  clear hb
                  have q5_8 := cellE hR 8 (.string s.text) rfl
                  go_wp2_with fail
                  refine (c6 _).mono ?_
                  rintro e w5 ⟨rfl, hb⟩
                  clear q5_8
                  replace hR := blkF hb hR
                  replace hB := btF hB hb
                  clear hb
                  have q6_6 := cellE hR 6 (.int .i64 s.sent) rfl
                  have q6_3 := cellE hR 3 (.string s.say) rfl
                  have q7_10 := cellE hR 10 (.int .i64 s.fl.s) rfl
                  have q7_11 := cellE hR 11 (.int .i64 s.fl.r) rfl
                  go_wp2_with fail
                  refine (c8 _).mono ?_
                  rintro e w7 ⟨rfl, hb⟩
                  clear q6_6 q6_3 q7_10 q7_11
                  replace hR := blkF hb hR
                  replace hB := btF hB hb
                  clear hb
                  go_wp2
                  go_ret
                  exact ⟨rfl, hB⟩
                | true =>
                  rw [h7] at c8
                  clear h0 h1 h2 h3 h4 h5 h6 h7
                  simp only [Bool.true_and]
                  go_enter Try.func68, Try.ntmps68
                  have q0_0 := cellE hR 0 (.int .i64 s.id) rfl
                  go_wp2_with fail
                  refine (c1 _).mono ?_
                  rintro e w0 ⟨rfl, rfl⟩
                  clear q0_0
                  have q1_1 := cellE hR 1 (.int .i64 s.st) rfl
                  have q2_2 := cellE hR 2 (.slice ah nh ch) rfl
                  go_wp2_with fail
                  refine (c3 _ (HFH.out.below hB)).mono ?_
                  rintro e w2 ⟨rfl, hb⟩
                  clear q1_1 q2_2
                  replace hR := blkF hb hR
                  replace hB := btF hB hb
                  clear hb
                  have q3_7 := cellE hR 7 (.slice ag ng cg) rfl
                  go_wp2_with fail
                  refine (c4 _ (HFG.out.below hB)).mono ?_
                  rintro e w3 ⟨rfl, hb⟩
                  clear q3_7
                  replace hR := blkF hb hR
                  replace hB := btF hB hb
                  clear hb
                  have q4_3 := cellE hR 3 (.string s.say) rfl
                  go_wp2_with fail
                  refine (c5 _).mono ?_
                  rintro e w4 ⟨rfl, hb⟩
                  clear q4_3
                  replace hR := blkF hb hR
                  replace hB := btF hB hb
                  clear hb
                  have q5_8 := cellE hR 8 (.string s.text) rfl
                  go_wp2_with fail
                  refine (c6 _).mono ?_
                  rintro e w5 ⟨rfl, hb⟩
                  clear q5_8
                  replace hR := blkF hb hR
                  replace hB := btF hB hb
                  clear hb
                  have q6_6 := cellE hR 6 (.int .i64 s.sent) rfl
                  have q6_3 := cellE hR 3 (.string s.say) rfl
                  have q7_10 := cellE hR 10 (.int .i64 s.fl.s) rfl
                  have q7_11 := cellE hR 11 (.int .i64 s.fl.r) rfl
                  go_wp2_with fail
                  refine (c8 _).mono ?_
                  rintro e w7 ⟨rfl, hb⟩
                  clear q6_6 q6_3 q7_10 q7_11
                  replace hR := blkF hb hR
                  replace hB := btF hB hb
                  clear hb
                  go_wp2
                  go_ret
                  exact ⟨rfl, hB⟩
end Go.Proofs.Ytdnajdobmlgmiaa
