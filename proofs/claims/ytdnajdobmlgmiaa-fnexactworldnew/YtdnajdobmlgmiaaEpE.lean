import Derived.Test.YtdnajdobmlgmiaaCC
import Derived.Deep.RegionHeld3
import Derived.Maps.RangeWalk
namespace Go.Proofs.Ytdnajdobmlgmiaa
open Go.RowKit
set_option linter.unusedVariables false

set_option maxRecDepth 100000 in
set_option maxHeartbeats 20000000 in
theorem eqStream_same (s : Sm) (ah ag bh bg : Option Addr) (nh ch ng cg dh dg : Nat) (w : World) (f1 : Fs w ah nh ch s.head) (f2 : Fs w ag ng cg s.got) (g1 : Fs w bh nh dh s.head) (g2 : Fs w bg ng dg s.got) (hn : nh ≤ 1048576) (hm : ng ≤ 1048576) :
    Calls Try.prog 50 #[.agg (smC s (.slice ah nh ch) (.slice ag ng cg)).toArray, .agg (smC s (.slice bh nh dh) (.slice bg ng dg)).toArray] w fun r w' => r = .returned (.bool true) ∧ Below w.heap.size w w' := by
  have S0 := ((SB.start w).alloc (smC s (.slice ah nh ch) (.slice ag ng cg)).toArray 70).alloc (smC s (.slice bh nh dh) (.slice bg ng dg)).toArray 70
  simp only [World.size_alloc] at S0
  have HS0 : Hid _ := S0
  have HF1 : Hid _ := f1
  have HF2 : Hid _ := f2
  have HG1 : Hid _ := g1
  have HG2 : Hid _ := g2
  have q1 := fun W (h : Fs W ah nh ch s.head) (h' : Fs W bh nh dh s.head) => eqFieldS_any s.head s.head ah bh nh ch nh dh W h h' hn hn
  have q2 := fun W (h : Fs W ag ng cg s.got) (h' : Fs W bg ng dg s.got) => eqFieldS_any s.got s.got ag bg ng cg ng dg W h h' hm hm
  have q3 := fun W => eqFlow_same s.fl W
  rw [eqFs_self] at q1 q2
  clear S0 f1 f2 g1 g2 hn hm
  go_enter Try.func50, Try.ntmps50
  go_upto_region 1 with fail
  refine wabsW (fun V => SB w V [(w.heap.size, (smC s (.slice ah nh ch) (.slice ag ng cg)).toArray, 70), (w.heap.size + 1, (smC s (.slice bh nh dh) (.slice bg ng dg)).toArray, 70)]) HS0.out ?_
  clear HS0
  rintro V1 S1
  have HS1 : Hid _ := S1
  clear S1
  have c0 := cellE (HS1.out.at 0 rfl) 0 (.int .i64 s.id) rfl
  have d0 := cellE (HS1.out.at 1 rfl) 0 (.int .i64 s.id) rfl
  have c1 := cellE (HS1.out.at 0 rfl) 1 (.int .i64 s.st) rfl
  have d1 := cellE (HS1.out.at 1 rfl) 1 (.int .i64 s.st) rfl
  have c2 := cellE (HS1.out.at 0 rfl) 2 (.slice ah nh ch) rfl
  have d2 := cellE (HS1.out.at 1 rfl) 2 (.slice bh nh dh) rfl
  go_upto_region 7 with (go_at_call 49; refine (q1 _ (HF1.out.below HS1.out.bel) (HG1.out.below HS1.out.bel)).mono ?_; clear q1; rintro e w1 ⟨rfl, hb1⟩)
  have HS2 : Hid _ := HS1.out.below hb1
  clear HS1 hb1 c0 d0 c1 d1 c2 d2
  have c3 := cellE (HS2.out.at 0 rfl) 3 (.string s.say) rfl
  have d3 := cellE (HS2.out.at 1 rfl) 3 (.string s.say) rfl
  have c4 := cellE (HS2.out.at 0 rfl) 4 (.bool s.begun) rfl
  have d4 := cellE (HS2.out.at 1 rfl) 4 (.bool s.begun) rfl
  have c5 := cellE (HS2.out.at 0 rfl) 5 (.bool s.said) rfl
  have d5 := cellE (HS2.out.at 1 rfl) 5 (.bool s.said) rfl
  have c6 := cellE (HS2.out.at 0 rfl) 6 (.int .i64 s.sent) rfl
  have d6 := cellE (HS2.out.at 1 rfl) 6 (.int .i64 s.sent) rfl
  have c7 := cellE (HS2.out.at 0 rfl) 7 (.slice ag ng cg) rfl
  have d7 := cellE (HS2.out.at 1 rfl) 7 (.slice bg ng dg) rfl
  go_upto_region 17 with (go_at_call 49; refine (q2 _ (HF2.out.below HS2.out.bel) (HG2.out.below HS2.out.bel)).mono ?_; clear q2; rintro e w2 ⟨rfl, hb2⟩)
  have HS3 : Hid _ := HS2.out.below hb2
  clear HS2 hb2 c3 d3 c4 d4 c5 d5 c6 d6 c7 d7
  have c8 := cellE (HS3.out.at 0 rfl) 8 (.string s.text) rfl
  have d8 := cellE (HS3.out.at 1 rfl) 8 (.string s.text) rfl
  have c9 := cellE (HS3.out.at 0 rfl) 9 (.bool s.heard) rfl
  have d9 := cellE (HS3.out.at 1 rfl) 9 (.bool s.heard) rfl
  have c10 := cellE (HS3.out.at 0 rfl) 10 (.int .i64 s.fl.s) rfl
  have d10 := cellE (HS3.out.at 1 rfl) 10 (.int .i64 s.fl.s) rfl
  have c11 := cellE (HS3.out.at 0 rfl) 11 (.int .i64 s.fl.r) rfl
  have d11 := cellE (HS3.out.at 1 rfl) 11 (.int .i64 s.fl.r) rfl
  go_wp2_with (go_at_call 26; refine (q3 _).mono ?_; clear q3; rintro e w3 ⟨rfl, hb3⟩)
  go_ret
  exact ⟨rfl, bt' HS3.out.bel hb3⟩

set_option maxRecDepth 100000 in
set_option maxHeartbeats 20000000 in
theorem eqFrameS_same (l : List Fr) (v v' : Value) (w : World) (h1 : RdRow w 4 v l.length (cellsFr l)) (h2 : RdRow w 4 v' l.length (cellsFr l)) (hl : l.length ≤ 1048576) :
    Calls Try.prog 27 #[v, v'] w fun r w' => r = .returned (.bool true) ∧ Below w.heap.size w w' := by
  obtain ⟨a, c, rfl, r1⟩ := h1
  obtain ⟨a', c', rfl, r2⟩ := h2
  have HR1 : Hid _ := r1
  have HR2 : Hid _ := r2
  clear r1 r2
  go_enter Try.func27, Try.ntmps27
  go_wp2
  go_loopw [5] (fun i wr => ∃ k : Nat, k ≤ l.length ∧ i = .int .i64 k ∧ Below w.heap.size w wr) (fun i _ => l.length - (intOf i).toNat)
  case atStart => exact ⟨0, by omega, rfl, Below.refl _ _⟩
  case round =>
    obtain ⟨k, hk, rfl, hbel⟩ := hrel
    by_cases hlt : k < l.length
    · have hlt' : (k : Int) < l.length := by omega
      have hk0 : (0 : Int) ≤ k := by omega
      obtain ⟨s, hff⟩ : ∃ s, l[k]? = some s := ⟨_, List.getElem?_eq_getElem hlt⟩
      obtain ⟨g, o, rfl, hr1⟩ := rd_at (HR1.out.below hbel) (ys := frV4 s) (by show k * 4 + 4 ≤ l.length * 4; omega) (by show 0 < 4; omega) (fun j hj => cellsFr_rng l k s hff j hj)
      obtain ⟨g', o', rfl, hr2⟩ := rd_at (HR2.out.below hbel) (ys := frV4 s) (by show k * 4 + 4 ≤ l.length * 4; omega) (by show 0 < 4; omega) (fun j hj => cellsFr_rng l k s hff j hj)
      have HX1 : Hid _ := hr1
      have HX2 : Hid _ := hr2
      clear hr1 hr2
      have heq := fun W => eqFrame_same s W
      have HBEL : Hid _ := hbel
      have hmx : Try.prog.follows .mixedOrders = true := by kernel_rfl
      clear hff hbel
      go_wp2_with fail
      have hkeepV : ∀ w1 w2 : World, Below w1.heap.size w1 w2 → Below wr.heap.size wr w1 → Below wr.heap.size wr w2 := fun w1 w2 hb hB => bt' hB hb
      have hBelV : ∀ w' : World, Below wr.heap.size wr w' → Below wr.heap.size wr w' := fun _ h => h
      have hV0 : Below wr.heap.size wr wr := Below.refl _ _
      refine wp_region_noPanic ?_
      refine wp_region_held_drew (S := fun w' => Below wr.heap.size wr w') (by kernel_rfl) ?_ (fun hHeld => ?_)
      · exact hkeepV _ _ ((Below.refl _ _).drew) hV0
      (refine wpAnyH_take (i := 0) (v := ?vaV0) (by simp only [List.getElem?_toArray, List.getElem?_cons_zero]; rfl) (by kernel_rfl) (by kernel_rfl) (by kernel_rfl) (fun _ _ _ h => h) (Or.inl ⟨by kernel_rfl, ?hyaV0⟩) (by assumption) ?restaV0; (case hyaV0 => ((intro w' hSw); (try dsimp only at hSw); go_simp; (try with_reducible rfl))); try go_frame)
      (refine wpAnyH_take (i := 1) (v := ?vaV1) (by simp only [List.getElem?_toArray, List.getElem?_cons_succ, List.getElem?_cons_zero]; rfl) (by kernel_rfl) (by kernel_rfl) (by kernel_rfl) (fun _ _ _ h => h) (Or.inl ⟨by kernel_rfl, ?hyaV1⟩) (by assumption) ?restaV1; (case hyaV1 => ((intro w' hSw); (try dsimp only at hSw); go_simp; (try with_reducible rfl))); try go_frame)
      (refine wpAnyH_take (i := 2) (v := ?vaV2) (by simp only [List.getElem?_toArray, List.getElem?_cons_succ, List.getElem?_cons_zero]; rfl) (by kernel_rfl) (by kernel_rfl) (by kernel_rfl) (fun _ _ _ h => h) (Or.inl ⟨by kernel_rfl, ?hyaV2⟩) (by assumption) ?restaV2; (case hyaV2 => ((intro w' hSw); (try dsimp only at hSw); go_simp; (try with_reducible rfl))); try go_frame)
      (refine wpAnyH_take (i := 3) (v := .agg (frV4 s).toArray) (by simp only [List.getElem?_toArray, List.getElem?_cons_succ, List.getElem?_cons_zero]; rfl) (by kernel_rfl) (by kernel_rfl) (by kernel_rfl) (fun _ _ _ h => h) (yieldsIf_load_mid (by kernel_rfl) 73 _ (by rfl) g (o + k * 4) (by rfl) (frV4 s) _ (fun w2 h => range_below HX1.out (hBelV w2 h)) Try.underlying73 (by rfl) infoFrI) (by assumption) ?restaV3; try go_frame)
      (refine wpAnyH_take (i := 4) (v := ?vaV4) (by simp only [List.getElem?_toArray, List.getElem?_cons_succ, List.getElem?_cons_zero]; rfl) (by kernel_rfl) (by kernel_rfl) (by kernel_rfl) (fun _ _ _ h => h) (Or.inl ⟨by kernel_rfl, ?hyaV4⟩) (by assumption) ?restaV4; (case hyaV4 => ((intro w' hSw); (try dsimp only at hSw); go_simp; (try with_reducible rfl))); try go_frame)
      (refine wpAnyH_take (i := 5) (v := ?vaV5) (by simp only [List.getElem?_toArray, List.getElem?_cons_succ, List.getElem?_cons_zero]; rfl) (by kernel_rfl) (by kernel_rfl) (by kernel_rfl) (fun _ _ _ h => h) (Or.inl ⟨by kernel_rfl, ?hyaV5⟩) (by assumption) ?restaV5; (case hyaV5 => ((intro w' hSw); (try dsimp only at hSw); go_simp; (try with_reducible rfl))); try go_frame)
      (refine wpAnyH_take (i := 6) (v := ?vaV6) (by simp only [List.getElem?_toArray, List.getElem?_cons_succ, List.getElem?_cons_zero]; rfl) (by kernel_rfl) (by kernel_rfl) (by kernel_rfl) (fun _ _ _ h => h) (Or.inl ⟨by kernel_rfl, ?hyaV6⟩) (by assumption) ?restaV6; (case hyaV6 => ((intro w' hSw); (try dsimp only at hSw); go_simp; (try with_reducible rfl))); try go_frame)
      (refine wpAnyH_take (i := 7) (v := .agg (frV4 s).toArray) (by simp only [List.getElem?_toArray, List.getElem?_cons_succ, List.getElem?_cons_zero]; rfl) (by kernel_rfl) (by kernel_rfl) (by kernel_rfl) (fun _ _ _ h => h) (yieldsIf_load_mid (by kernel_rfl) 73 _ (by rfl) g' (o' + k * 4) (by rfl) (frV4 s) _ (fun w2 h => range_below HX2.out (hBelV w2 h)) Try.underlying73 (by rfl) infoFrI) (by assumption) ?restaV7; try go_frame)
      refine wpAnyH_ready (rs := [8]) (by kernel_rfl) (by simp) ?_
      refine AllReadyH.cons (by simp only [List.getElem?_toArray, List.getElem?_cons_succ, List.getElem?_cons_zero]; rfl) (fun K hK => ?_) AllReadyH.nil
      first | (go_at_call 51; refine (heq _).mono ?_; rintro r wN ⟨rfl, hbN⟩) | (go_simp; (go_at_call 51; refine (heq _).mono ?_; rintro r wN ⟨rfl, hbN⟩))
      try (go_wp2_with fail)
      refine hK.out _ _ ?_ (fun hHeld => ?_)
      · (try dsimp only); exact hkeepV _ _ hbN (by assumption)
      clear hK K
      try go_frame
      (refine wpAnyH_take (i := 9) (v := ?vaV9) (by simp only [List.getElem?_toArray, List.getElem?_cons_succ, List.getElem?_cons_zero]; rfl) (by kernel_rfl) (by kernel_rfl) (by kernel_rfl) (fun _ _ _ h => h) (Or.inl ⟨by kernel_rfl, ?hyaV9⟩) (by assumption) ?restaV9; (case hyaV9 => ((intro w' hSw); (try dsimp only at hSw); go_simp; (try with_reducible rfl))); try go_frame)
      refine wpAnyH_done (by kernel_rfl) ?_ _
      refine NoPanic.normal ?_
      go_wp2_with fail
      go_roundw
      case rel => exact ⟨k + 1, by omega, by go_num, bt' HBEL.out (hBelV _ (by first | assumption | exact hkeepV _ _ hbN (by assumption)))⟩
      case measure => simp [intOf]; omega
    · go_wp2
      go_ret
      exact ⟨rfl, hbel⟩

set_option maxRecDepth 100000 in
set_option maxHeartbeats 20000000 in
theorem eqStreamS_same (l : List Sm) (v v' : Value) (w : World) (h1 : ∃ xs, RdRow w 12 v l.length xs ∧ SmL (Fs w) l xs) (h2 : ∃ xs, RdRow w 12 v' l.length xs ∧ SmL (Fs w) l xs) (hl : l.length ≤ 1048576) (hbd : ∀ s ∈ l, s.head.length ≤ 1048576 ∧ s.got.length ≤ 1048576) :
    Calls Try.prog 25 #[v, v'] w fun r w' => r = .returned (.bool true) ∧ Below w.heap.size w w' := by
  obtain ⟨xs, ⟨a, c, rfl, r1⟩, m1⟩ := h1
  obtain ⟨ys, ⟨a', c', rfl, r2⟩, m2⟩ := h2
  have HR1 : Hid _ := r1
  have HR2 : Hid _ := r2
  have HM1 : Hid (SmL (Fs w) l xs) := m1
  have HM2 : Hid (SmL (Fs w) l ys) := m2
  have HBD : Hid (∀ s ∈ l, s.head.length ≤ 1048576 ∧ s.got.length ≤ 1048576) := hbd
  clear r1 r2 m1 m2 hbd
  go_enter Try.func25, Try.ntmps25
  go_wp2
  go_loopw [5] (fun i wr => ∃ k : Nat, k ≤ l.length ∧ i = .int .i64 k ∧ Below w.heap.size w wr) (fun i _ => l.length - (intOf i).toNat)
  case atStart => exact ⟨0, by omega, rfl, Below.refl _ _⟩
  case round =>
    obtain ⟨k, hk, rfl, hbel⟩ := hrel
    by_cases hlt : k < l.length
    · have hlt' : (k : Int) < l.length := by omega
      have hk0 : (0 : Int) ≤ k := by omega
      obtain ⟨s, hff⟩ : ∃ s, l[k]? = some s := ⟨_, List.getElem?_eq_getElem hlt⟩
      obtain ⟨ah, nh, ch, ag, ng, cg, f1, f2, e1⟩ := HM1.out.at k s hff
      obtain ⟨bh, mh, dh, bg, mg, dg, k1, k2, e2⟩ := HM2.out.at k s hff
      obtain rfl : s.head.length = nh := f1.len
      obtain rfl : s.got.length = ng := f2.len
      obtain rfl : s.head.length = mh := k1.len
      obtain rfl : s.got.length = mg := k2.len
      obtain ⟨g, o, rfl, hr1⟩ := rd_at (HR1.out.below hbel) (ys := smC s (.slice ah s.head.length ch) (.slice ag s.got.length cg)) (by show k * 12 + 12 ≤ l.length * 12; omega) (by show 0 < 12; omega) (fun j hj => e1 j hj)
      obtain ⟨g', o', rfl, hr2⟩ := rd_at (HR2.out.below hbel) (ys := smC s (.slice bh s.head.length dh) (.slice bg s.got.length dg)) (by show k * 12 + 12 ≤ l.length * 12; omega) (by show 0 < 12; omega) (fun j hj => e2 j hj)
      have HX1 : Hid _ := hr1
      have HX2 : Hid _ := hr2
      have hb2 := HBD.out s (List.mem_of_getElem? hff)
      have HK : Hid (Fs wr ah s.head.length ch s.head ∧ Fs wr ag s.got.length cg s.got ∧ Fs wr bh s.head.length dh s.head ∧ Fs wr bg s.got.length dg s.got) := ⟨f1.below hbel, f2.below hbel, k1.below hbel, k2.below hbel⟩
      have heq := fun W (hb : Below wr.heap.size wr W) => eqStream_same s ah ag bh bg s.head.length ch s.got.length cg dh dg W (HK.out.1.below hb) (HK.out.2.1.below hb) (HK.out.2.2.1.below hb) (HK.out.2.2.2.below hb) hb2.1 hb2.2
      clear hr1 hr2 f1 f2 k1 k2 e1 e2 hb2
      have HBEL : Hid _ := hbel
      have hmx : Try.prog.follows .mixedOrders = true := by kernel_rfl
      clear hff hbel
      go_wp2_with fail
      have hkeepV : ∀ w1 w2 : World, Below w1.heap.size w1 w2 → Below wr.heap.size wr w1 → Below wr.heap.size wr w2 := fun w1 w2 hb hB => bt' hB hb
      have hBelV : ∀ w' : World, Below wr.heap.size wr w' → Below wr.heap.size wr w' := fun _ h => h
      have hV0 : Below wr.heap.size wr wr := Below.refl _ _
      refine wp_region_noPanic ?_
      refine wp_region_held_drew (S := fun w' => Below wr.heap.size wr w') (by kernel_rfl) ?_ (fun hHeld => ?_)
      · exact hkeepV _ _ ((Below.refl _ _).drew) hV0
      (refine wpAnyH_take (i := 0) (v := ?vaV0) (by simp only [List.getElem?_toArray, List.getElem?_cons_zero]; rfl) (by kernel_rfl) (by kernel_rfl) (by kernel_rfl) (fun _ _ _ h => h) (Or.inl ⟨by kernel_rfl, ?hyaV0⟩) (by assumption) ?restaV0; (case hyaV0 => ((intro w' hSw); (try dsimp only at hSw); go_simp; (try with_reducible rfl))); try go_frame)
      (refine wpAnyH_take (i := 1) (v := ?vaV1) (by simp only [List.getElem?_toArray, List.getElem?_cons_succ, List.getElem?_cons_zero]; rfl) (by kernel_rfl) (by kernel_rfl) (by kernel_rfl) (fun _ _ _ h => h) (Or.inl ⟨by kernel_rfl, ?hyaV1⟩) (by assumption) ?restaV1; (case hyaV1 => ((intro w' hSw); (try dsimp only at hSw); go_simp; (try with_reducible rfl))); try go_frame)
      (refine wpAnyH_take (i := 2) (v := ?vaV2) (by simp only [List.getElem?_toArray, List.getElem?_cons_succ, List.getElem?_cons_zero]; rfl) (by kernel_rfl) (by kernel_rfl) (by kernel_rfl) (fun _ _ _ h => h) (Or.inl ⟨by kernel_rfl, ?hyaV2⟩) (by assumption) ?restaV2; (case hyaV2 => ((intro w' hSw); (try dsimp only at hSw); go_simp; (try with_reducible rfl))); try go_frame)
      (refine wpAnyH_take (i := 3) (v := .agg (smC s (.slice ah s.head.length ch) (.slice ag s.got.length cg)).toArray) (by simp only [List.getElem?_toArray, List.getElem?_cons_succ, List.getElem?_cons_zero]; rfl) (by kernel_rfl) (by kernel_rfl) (by kernel_rfl) (fun _ _ _ h => h) (yieldsIf_load_mid (by kernel_rfl) 70 _ (by rfl) g (o + k * 12) (by rfl) (smC s (.slice ah s.head.length ch) (.slice ag s.got.length cg)) _ (fun w2 h => range_below HX1.out (hBelV w2 h)) Try.underlying70 (by rfl) infoSm) (by assumption) ?restaV3; try go_frame)
      (refine wpAnyH_take (i := 4) (v := ?vaV4) (by simp only [List.getElem?_toArray, List.getElem?_cons_succ, List.getElem?_cons_zero]; rfl) (by kernel_rfl) (by kernel_rfl) (by kernel_rfl) (fun _ _ _ h => h) (Or.inl ⟨by kernel_rfl, ?hyaV4⟩) (by assumption) ?restaV4; (case hyaV4 => ((intro w' hSw); (try dsimp only at hSw); go_simp; (try with_reducible rfl))); try go_frame)
      (refine wpAnyH_take (i := 5) (v := ?vaV5) (by simp only [List.getElem?_toArray, List.getElem?_cons_succ, List.getElem?_cons_zero]; rfl) (by kernel_rfl) (by kernel_rfl) (by kernel_rfl) (fun _ _ _ h => h) (Or.inl ⟨by kernel_rfl, ?hyaV5⟩) (by assumption) ?restaV5; (case hyaV5 => ((intro w' hSw); (try dsimp only at hSw); go_simp; (try with_reducible rfl))); try go_frame)
      (refine wpAnyH_take (i := 6) (v := ?vaV6) (by simp only [List.getElem?_toArray, List.getElem?_cons_succ, List.getElem?_cons_zero]; rfl) (by kernel_rfl) (by kernel_rfl) (by kernel_rfl) (fun _ _ _ h => h) (Or.inl ⟨by kernel_rfl, ?hyaV6⟩) (by assumption) ?restaV6; (case hyaV6 => ((intro w' hSw); (try dsimp only at hSw); go_simp; (try with_reducible rfl))); try go_frame)
      (refine wpAnyH_take (i := 7) (v := .agg (smC s (.slice bh s.head.length dh) (.slice bg s.got.length dg)).toArray) (by simp only [List.getElem?_toArray, List.getElem?_cons_succ, List.getElem?_cons_zero]; rfl) (by kernel_rfl) (by kernel_rfl) (by kernel_rfl) (fun _ _ _ h => h) (yieldsIf_load_mid (by kernel_rfl) 70 _ (by rfl) g' (o' + k * 12) (by rfl) (smC s (.slice bh s.head.length dh) (.slice bg s.got.length dg)) _ (fun w2 h => range_below HX2.out (hBelV w2 h)) Try.underlying70 (by rfl) infoSm) (by assumption) ?restaV7; try go_frame)
      refine wpAnyH_ready (rs := [8]) (by kernel_rfl) (by simp) ?_
      refine AllReadyH.cons (by simp only [List.getElem?_toArray, List.getElem?_cons_succ, List.getElem?_cons_zero]; rfl) (fun K hK => ?_) AllReadyH.nil
      first | (go_at_call 50; refine (heq _ (hBelV _ (by assumption))).mono ?_; rintro r wN ⟨rfl, hbN⟩) | (go_simp; (go_at_call 50; refine (heq _ (hBelV _ (by assumption))).mono ?_; rintro r wN ⟨rfl, hbN⟩))
      try (go_wp2_with fail)
      refine hK.out _ _ ?_ (fun hHeld => ?_)
      · (try dsimp only); exact hkeepV _ _ hbN (by assumption)
      clear hK K
      try go_frame
      (refine wpAnyH_take (i := 9) (v := ?vaV9) (by simp only [List.getElem?_toArray, List.getElem?_cons_succ, List.getElem?_cons_zero]; rfl) (by kernel_rfl) (by kernel_rfl) (by kernel_rfl) (fun _ _ _ h => h) (Or.inl ⟨by kernel_rfl, ?hyaV9⟩) (by assumption) ?restaV9; (case hyaV9 => ((intro w' hSw); (try dsimp only at hSw); go_simp; (try with_reducible rfl))); try go_frame)
      refine wpAnyH_done (by kernel_rfl) ?_ _
      refine NoPanic.normal ?_
      go_wp2_with fail
      go_roundw
      case rel => exact ⟨k + 1, by omega, by go_num, bt' HBEL.out (hBelV _ (by first | assumption | exact hkeepV _ _ hbN (by assumption)))⟩
      case measure => simp [intOf]; omega
    · go_wp2
      go_ret
      exact ⟨rfl, hbel⟩

theorem smRd_below {w w' : World} {v : Value} {l : List Sm} (h : ∃ xs, RdRow w 12 v l.length xs ∧ SmL (Fs w) l xs) (hb : Below w.heap.size w w') : ∃ xs, RdRow w' 12 v l.length xs ∧ SmL (Fs w') l xs := by
  obtain ⟨xs, h1, h2⟩ := h
  exact ⟨xs, h1.below hb, h2.mono (fun _ _ _ _ k => k.below hb)⟩

set_option maxRecDepth 100000 in
set_option maxHeartbeats 20000000 in
theorem eqEnd_same (e : Ed) (o1 i1 s1 q1 o2 i2 s2 q2 : Value) (w : World) (h1 : EdV w e o1 i1 s1 q1) (h2 : EdV w e o2 i2 s2 q2) (hl : EdLn e) :
    Calls Try.prog 16 #[.agg (edC e o1 i1 s1 q1), .agg (edC e o2 i2 s2 q2)] w fun r w' => r = .returned (.bool true) ∧ Below w.heap.size w w' := by
  obtain ⟨⟨ao, no, co, rfl, fo⟩, ⟨ai, ni, ci, rfl, fi⟩, ⟨xs, hs, ms⟩, hq⟩ := h1
  obtain ⟨⟨bo, mo, do_, rfl, go⟩, ⟨bi, mi, di, rfl, gi⟩, ⟨ys, ht, mt⟩, hr⟩ := h2
  obtain rfl : e.out.length = no := fo.len
  obtain rfl : e.inn.length = ni := fi.len
  obtain rfl : e.out.length = mo := go.len
  obtain rfl : e.inn.length = mi := gi.len
  have S0 := ((SB.start w).alloc (edC e (.slice ao e.out.length co) (.slice ai e.inn.length ci) s1 q1) 30).alloc (edC e (.slice bo e.out.length do_) (.slice bi e.inn.length di) s2 q2) 30
  simp only [World.size_alloc] at S0
  have HS0 : Hid _ := S0
  have HF1 : Hid (Fs w ao e.out.length co e.out ∧ Fs w ai e.inn.length ci e.inn ∧ Fs w bo e.out.length do_ e.out ∧ Fs w bi e.inn.length di e.inn) := ⟨fo, fi, go, gi⟩
  have HS1 : Hid (∃ xs, RdRow w 12 s1 e.sts.length xs ∧ SmL (Fs w) e.sts xs) := ⟨xs, hs, ms⟩
  have HS2 : Hid (∃ xs, RdRow w 12 s2 e.sts.length xs ∧ SmL (Fs w) e.sts xs) := ⟨ys, ht, mt⟩
  have HQ1 : Hid (RdRow w 4 q1 e.wait.length (cellsFr e.wait)) := hq
  have HQ2 : Hid (RdRow w 4 q2 e.wait.length (cellsFr e.wait)) := hr
  have hno := hl.out
  have hni := hl.inn
  have p1 := fun W (h : Below w.heap.size w W) => eqTable_same e.out ao bo co do_ e.outM W (HF1.out.1.below h) (HF1.out.2.2.1.below h) hno
  have p2 := fun W (h : Below w.heap.size w W) => eqTable_same e.inn ai bi ci di e.innM W (HF1.out.2.1.below h) (HF1.out.2.2.2.below h) hni
  have p3 := fun W (h : Below w.heap.size w W) => eqStreamS_same e.sts s1 s2 W (smRd_below HS1.out h) (smRd_below HS2.out h) hl.sts hl.hd
  have p4 := fun W => eqFlow_same e.fl W
  have p5 := fun W (h : Below w.heap.size w W) => eqFrameS_same e.wait q1 q2 W (HQ1.out.below h) (HQ2.out.below h) hl.wait
  obtain ⟨a3, k3, rfl, _⟩ := hs
  obtain ⟨a4, k4, rfl, _⟩ := ht
  obtain ⟨a5, k5, rfl, _⟩ := hq
  obtain ⟨a6, k6, rfl, _⟩ := hr
  clear S0 fo fi go gi ms mt hl hno hni
  go_enter Try.func16, Try.ntmps16
  go_upto_region 1 with fail
  refine wabsW (fun V => SB w V [(w.heap.size, (edC e (.slice ao e.out.length co) (.slice ai e.inn.length ci) (.slice a3 e.sts.length k3) (.slice a5 e.wait.length k5)), 30), (w.heap.size + 1, (edC e (.slice bo e.out.length do_) (.slice bi e.inn.length di) (.slice a4 e.sts.length k4) (.slice a6 e.wait.length k6)), 30)]) HS0.out ?_
  clear HS0
  rintro V1 S1
  have HV1 : Hid _ := S1
  clear S1
  have c0 := cellE (HV1.out.at 0 rfl) 0 (.bool e.ans) rfl
  have d0 := cellE (HV1.out.at 1 rfl) 0 (.bool e.ans) rfl
  have c1 := cellE (HV1.out.at 0 rfl) 1 (.slice ao e.out.length co) rfl
  have d1 := cellE (HV1.out.at 1 rfl) 1 (.slice bo e.out.length do_) rfl
  have c2 := cellE (HV1.out.at 0 rfl) 2 (.int .i64 e.outM) rfl
  have d2 := cellE (HV1.out.at 1 rfl) 2 (.int .i64 e.outM) rfl
  go_upto_region 5 with (go_at_call 24; refine (p1 _ HV1.out.bel).mono ?_; clear p1; rintro e w1 ⟨rfl, hb1⟩)
  have HV2 : Hid _ := HV1.out.below hb1
  clear HV1 hb1 c0 d0 c1 d1 c2 d2
  have c3 := cellE (HV2.out.at 0 rfl) 3 (.slice ai e.inn.length ci) rfl
  have d3 := cellE (HV2.out.at 1 rfl) 3 (.slice bi e.inn.length di) rfl
  have c4 := cellE (HV2.out.at 0 rfl) 4 (.int .i64 e.innM) rfl
  have d4 := cellE (HV2.out.at 1 rfl) 4 (.int .i64 e.innM) rfl
  go_upto_region 7 with (go_at_call 24; refine (p2 _ HV2.out.bel).mono ?_; clear p2; rintro e w2 ⟨rfl, hb2⟩)
  have HV3 : Hid _ := HV2.out.below hb2
  clear HV2 hb2 c3 d3 c4 d4
  have c5 := cellE (HV3.out.at 0 rfl) 5 (.string e.came) rfl
  have d5 := cellE (HV3.out.at 1 rfl) 5 (.string e.came) rfl
  have c6 := cellE (HV3.out.at 0 rfl) 6 (.slice a3 e.sts.length k3) rfl
  have d6 := cellE (HV3.out.at 1 rfl) 6 (.slice a4 e.sts.length k4) rfl
  go_upto_region 11 with (go_at_call 25; refine (p3 _ HV3.out.bel).mono ?_; clear p3; rintro e w3 ⟨rfl, hb3⟩)
  have HV4 : Hid _ := HV3.out.below hb3
  clear HV3 hb3 c5 d5 c6 d6
  have c7 := cellE (HV4.out.at 0 rfl) 7 (.int .i64 e.fl.s) rfl
  have d7 := cellE (HV4.out.at 1 rfl) 7 (.int .i64 e.fl.s) rfl
  have c8 := cellE (HV4.out.at 0 rfl) 8 (.int .i64 e.fl.r) rfl
  have d8 := cellE (HV4.out.at 1 rfl) 8 (.int .i64 e.fl.r) rfl
  go_upto_region 13 with (go_at_call 26; refine (p4 _).mono ?_; clear p4; rintro e w4 ⟨rfl, hb4⟩)
  have HV5 : Hid _ := HV4.out.below hb4
  clear HV4 hb4 c7 d7 c8 d8
  have c9 := cellE (HV5.out.at 0 rfl) 9 (.slice a5 e.wait.length k5) rfl
  have d9 := cellE (HV5.out.at 1 rfl) 9 (.slice a6 e.wait.length k6) rfl
  go_upto_region 15 with (go_at_call 27; refine (p5 _ HV5.out.bel).mono ?_; clear p5; rintro e w5 ⟨rfl, hb5⟩)
  have HV6 : Hid _ := HV5.out.below hb5
  clear HV5 hb5 c9 d9
  have c10 := cellE (HV6.out.at 0 rfl) 10 (.bool e.bad) rfl
  have d10 := cellE (HV6.out.at 1 rfl) 10 (.bool e.bad) rfl
  go_wp2
  go_ret
  exact ⟨rfl, HV6.out.bel⟩
end Go.Proofs.Ytdnajdobmlgmiaa
