import Derived.Test.YtdnajdobmlgmiaaCB2
import Derived.Test.YtdnajdobmlgmiaaBS
import Derived.Test.YtdnajdobmlgmiaaCE
import Derived.Test.YtdnajdobmlgmiaaCD
import Derived.ChangeArms
import Derived.DataReads
import Derived.Deep.Slices
namespace Go.Proofs.Ytdnajdobmlgmiaa
open Go.RowKit
set_option linter.unusedVariables false

theorem hgF_one {a b : Value} (h : ∀ g g', a.ownBlock = some g → b.ownBlock = some g' → g < g') : (hgF [(a, b)]).Nodup := by
  show ([a.ownBlock, b.ownBlock].filterMap id).Nodup
  exact two_nodup h
set_option maxRecDepth 100000 in
set_option maxHeartbeats 20000000 in
theorem toStream_any (s : Sm) (ah ag : Option Addr) (nh ch ng cg : Nat) (w : World) (fh : FsA w ah nh ch s.head) (fg : FsA w ag ng cg s.got) (hn : nh ≤ 1048576) (hm : ng ≤ 1048576) :
    Calls Try.prog 65 #[.agg (smC s (.slice ah nh ch) (.slice ag ng cg)).toArray] w fun r w' => ∃ x : Value × Value, r = .returned (.agg (smC s x.1 x.2).toArray) ∧ FO w' w.heap.size x.1 s.head ∧ FO w' w.heap.size x.2 s.got ∧ (hgF [x]).Nodup ∧ Below w.heap.size w w' := by
  have S0 := (((SB.start w).alloc (smC s (.slice ah nh ch) (.slice ag ng cg)).toArray 89).alloc zSmC 70).alloc zSmC 70
  simp only [World.size_alloc] at S0
  have HS0 : Hid _ := S0
  have HFH : Hid _ := fh
  have HFG : Hid _ := fg
  have lh := fh.len
  have lg := fg.len
  have th := fun W (h : FsA W ah nh ch s.head) => toFieldS_any s.head ah nh ch W h hn
  have tg := fun W (h : FsA W ag ng cg s.got) => toFieldS_any s.got ag ng cg W h hm
  have tf := fun W => toFlow_any s.fl W
  have HLH : Hid _ := lh
  have HLG : Hid _ := lg
  clear S0 fh fg hn hm lh lg
  go_enter Try.func65, Try.ntmps65
  go_upto_region 2 with fail
  refine wabsW (fun V => SB w V [(w.heap.size, (smC s (.slice ah nh ch) (.slice ag ng cg)).toArray, 89), (w.heap.size + 1, zSmC, 70), (w.heap.size + 1 + 1, #[.int .i64 0, .int .i64 0, .slice none 0 0, .string ⟨#[]⟩, .bool false, .bool false, .int .i64 0, .slice none 0 0, .string ⟨#[]⟩, .bool false, .int .i64 0, .int .i64 0], 70)]) HS0.out ?_
  clear HS0
  rintro V1 S1
  have HS1 : Hid _ := S1
  clear S1
  have c0 := cellE (HS1.out.at 0 rfl) 0 (.int .i64 s.id) rfl
  have d0 := cellE (HS1.out.at 2 rfl) 0 (.int .i64 0) rfl
  have f0 := frz 0 (HS1.out.at 2 rfl)
  have c1 := cellE (HS1.out.at 0 rfl) 1 (.int .i64 s.st) rfl
  have d1 := cellE (HS1.out.at 2 rfl) 1 (.int .i64 0) rfl
  have f1 := frz 1 (HS1.out.at 2 rfl)
  go_upto_region 4 with fail
  have T0 := HS1.out.put 2 rfl 0 (.int .i64 s.id) _ rfl
  have T1 := T0.put 2 rfl 1 (.int .i64 s.st) _ rfl
  refine wabsW (fun V => SB w V [(w.heap.size, (smC s (.slice ah nh ch) (.slice ag ng cg)).toArray, 89), (w.heap.size + 1, zSmC, 70), (w.heap.size + 1 + 1, #[.int .i64 s.id, .int .i64 s.st, .slice none 0 0, .string ⟨#[]⟩, .bool false, .bool false, .int .i64 0, .slice none 0 0, .string ⟨#[]⟩, .bool false, .int .i64 0, .int .i64 0], 70)]) T1 ?_
  clear HS1 T0 T1 c0 c1 d0 d1 f0 f1
  rintro V2 S2
  have HS2 : Hid _ := S2
  clear S2
  have c2 := cellE (HS2.out.at 0 rfl) 2 (.slice ah nh ch) rfl
  have d2 := cellE (HS2.out.at 2 rfl) 2 (.slice none 0 0) rfl
  have f2 := frz 2 (HS2.out.at 2 rfl)
  have hge2 : w.heap.size ≤ V2.heap.size := HS2.out.bel.size
  go_upto_region 5 with (go_at_call 64; refine (th _ (HFH.out.below HS2.out.bel)).mono ?_; clear th; rintro r W2 ⟨x1, rfl, ho1, hb2⟩; obtain ⟨a1, cp1, rfl⟩ := own_formT ho1; have d2 := cellE ((HS2.out.below hb2).at 2 rfl) 2 (.slice none 0 0) rfl; have f2 := frz 2 ((HS2.out.below hb2).at 2 rfl))
  have HS3 : Hid _ := HS2.out.below hb2
  have T0 := HS3.out.put 2 rfl 2 (.slice a1 nh cp1) _ rfl
  have hlt2 : ∀ g, (Value.slice a1 nh cp1).ownBlock = some g → V2.heap.size ≤ g := fun g hg => (own_lt ho1 hg).1
  have ho1' : (W2.setCell ⟨w.heap.size + 1 + 1, 2, none⟩ (.slice a1 nh cp1)).ownsRow w.heap.size 98 3 (.slice a1 nh cp1) nh (cellsF s.head) := own_row (own_baseT ho1 hge2) (grown_setCell W2 _ _ _) (one_row (HS3.out.at 2 rfl)) (by decide)
  refine wabsW (fun V => SB w V [(w.heap.size, (smC s (.slice ah nh ch) (.slice ag ng cg)).toArray, 89), (w.heap.size + 1, zSmC, 70), (w.heap.size + 1 + 1, #[.int .i64 s.id, .int .i64 s.st, .slice a1 nh cp1, .string ⟨#[]⟩, .bool false, .bool false, .int .i64 0, .slice none 0 0, .string ⟨#[]⟩, .bool false, .int .i64 0, .int .i64 0], 70)] ∧ V.ownsRow w.heap.size 98 3 (.slice a1 nh cp1) nh (cellsF s.head)) ⟨T0, ho1'⟩ ?_
  clear HS2 HS3 T0 c2 d2 f2 hb2 ho1 ho1' hge2 hlt2
  rintro V3 ⟨S3, o3⟩
  have HS3 : Hid _ := S3
  have HO3 : Hid _ := o3
  clear S3 o3
  have c3 := cellE (HS3.out.at 0 rfl) 3 (.string s.say) rfl
  have d3 := cellE (HS3.out.at 2 rfl) 3 (.string ⟨#[]⟩) rfl
  have f3 := frz 3 (HS3.out.at 2 rfl)
  have c4 := cellE (HS3.out.at 0 rfl) 4 (.bool s.begun) rfl
  have d4 := cellE (HS3.out.at 2 rfl) 4 (.bool false) rfl
  have f4 := frz 4 (HS3.out.at 2 rfl)
  have c5 := cellE (HS3.out.at 0 rfl) 5 (.bool s.said) rfl
  have d5 := cellE (HS3.out.at 2 rfl) 5 (.bool false) rfl
  have f5 := frz 5 (HS3.out.at 2 rfl)
  have c6 := cellE (HS3.out.at 0 rfl) 6 (.int .i64 s.sent) rfl
  have d6 := cellE (HS3.out.at 2 rfl) 6 (.int .i64 0) rfl
  have f6 := frz 6 (HS3.out.at 2 rfl)
  go_upto_region 9 with fail
  have T0 := HS3.out.put 2 rfl 3 (.string s.say) _ rfl
  have T1 := T0.put 2 rfl 4 (.bool s.begun) _ rfl
  have T2 := T1.put 2 rfl 5 (.bool s.said) _ rfl
  have T3 := T2.put 2 rfl 6 (.int .i64 s.sent) _ rfl
  have K0 : ∀ (W : World) (L : List (Nat × Array Value × TypeId)) (cs : Array Value) (j : Nat) (v : Value), SB w W L → L[2]? = some (w.heap.size + 1 + 1, cs, 70) → W.ownsRow w.heap.size 98 3 (.slice a1 nh cp1) nh (cellsF s.head) → (W.setCell ⟨w.heap.size + 1 + 1, j, none⟩ v).ownsRow w.heap.size 98 3 (.slice a1 nh cp1) nh (cellsF s.head) := fun W L cs j v hS hL ho => own_row ho (grown_setCell W _ _ _) (one_row (hS.at 2 hL)) (by decide)
  refine wabsW (fun V => SB w V [(w.heap.size, (smC s (.slice ah nh ch) (.slice ag ng cg)).toArray, 89), (w.heap.size + 1, zSmC, 70), (w.heap.size + 1 + 1, #[.int .i64 s.id, .int .i64 s.st, .slice a1 nh cp1, .string s.say, .bool s.begun, .bool s.said, .int .i64 s.sent, .slice none 0 0, .string ⟨#[]⟩, .bool false, .int .i64 0, .int .i64 0], 70)] ∧ V.ownsRow w.heap.size 98 3 (.slice a1 nh cp1) nh (cellsF s.head)) ⟨T3, K0 _ _ _ _ _ T2 rfl (K0 _ _ _ _ _ T1 rfl (K0 _ _ _ _ _ T0 rfl (K0 _ _ _ _ _ HS3.out rfl HO3.out)))⟩ ?_
  clear HS3 HO3 T0 T1 T2 T3 c3 c4 c5 c6 d3 d4 d5 d6 f3 f4 f5 f6
  rintro V4 ⟨S4, o4⟩
  have HS4 : Hid _ := S4
  have HO4 : Hid _ := o4
  clear S4 o4
  have c7 := cellE (HS4.out.at 0 rfl) 7 (.slice ag ng cg) rfl
  have d7 := cellE (HS4.out.at 2 rfl) 7 (.slice none 0 0) rfl
  have f7 := frz 7 (HS4.out.at 2 rfl)
  have hge4 : w.heap.size ≤ V4.heap.size := HS4.out.bel.size
  go_upto_region 10 with (go_at_call 64; refine (tg _ (HFG.out.below HS4.out.bel)).mono ?_; clear tg; rintro r W4 ⟨x2, rfl, ho2, hb4⟩; obtain ⟨a2, cp2, rfl⟩ := own_formT ho2; have d7 := cellE ((HS4.out.below hb4).at 2 rfl) 7 (.slice none 0 0) rfl; have f7 := frz 7 ((HS4.out.below hb4).at 2 rfl))
  have HS5 : Hid _ := HS4.out.below hb4
  have HO5 : Hid _ := own_belowT HO4.out hb4
  have T0 := HS5.out.put 2 rfl 7 (.slice a2 ng cp2) _ rfl
  have HND : Hid (hgF [(Value.slice a1 nh cp1, Value.slice a2 ng cp2)]).Nodup := hgF_one (fun g g' h h' => by have h1 := (own_lt HO4.out h).2; have h2 := (own_lt ho2 h').1; omega)
  have ho2' : (W4.setCell ⟨w.heap.size + 1 + 1, 7, none⟩ (.slice a2 ng cp2)).ownsRow w.heap.size 98 3 (.slice a2 ng cp2) ng (cellsF s.got) := own_row (own_baseT ho2 hge4) (grown_setCell W4 _ _ _) (one_row (HS5.out.at 2 rfl)) (by decide)
  refine wabsW (fun V => SB w V [(w.heap.size, (smC s (.slice ah nh ch) (.slice ag ng cg)).toArray, 89), (w.heap.size + 1, zSmC, 70), (w.heap.size + 1 + 1, #[.int .i64 s.id, .int .i64 s.st, .slice a1 nh cp1, .string s.say, .bool s.begun, .bool s.said, .int .i64 s.sent, .slice a2 ng cp2, .string ⟨#[]⟩, .bool false, .int .i64 0, .int .i64 0], 70)] ∧ V.ownsRow w.heap.size 98 3 (.slice a1 nh cp1) nh (cellsF s.head) ∧ V.ownsRow w.heap.size 98 3 (.slice a2 ng cp2) ng (cellsF s.got)) ⟨T0, K0 _ _ _ _ _ HS5.out rfl HO5.out, ho2'⟩ ?_
  clear HS4 HO4 HS5 HO5 T0 c7 d7 f7 hb4 ho2 ho2' hge4
  rintro V5 ⟨S5, o5, p5⟩
  have HS5 : Hid _ := S5
  have HO5 : Hid _ := o5
  have HP5 : Hid _ := p5
  clear S5 o5 p5
  have K1 : ∀ (W : World) (L : List (Nat × Array Value × TypeId)) (cs : Array Value) (j : Nat) (v : Value), SB w W L → L[2]? = some (w.heap.size + 1 + 1, cs, 70) → W.ownsRow w.heap.size 98 3 (.slice a2 ng cp2) ng (cellsF s.got) → (W.setCell ⟨w.heap.size + 1 + 1, j, none⟩ v).ownsRow w.heap.size 98 3 (.slice a2 ng cp2) ng (cellsF s.got) := fun W L cs j v hS hL ho => own_row ho (grown_setCell W _ _ _) (one_row (hS.at 2 hL)) (by decide)
  have c8 := cellE (HS5.out.at 0 rfl) 8 (.string s.text) rfl
  have d8 := cellE (HS5.out.at 2 rfl) 8 (.string ⟨#[]⟩) rfl
  have f8 := frz 8 (HS5.out.at 2 rfl)
  have c9 := cellE (HS5.out.at 0 rfl) 9 (.bool s.heard) rfl
  have d9 := cellE (HS5.out.at 2 rfl) 9 (.bool false) rfl
  have f9 := frz 9 (HS5.out.at 2 rfl)
  go_upto_region 12 with fail
  have T0 := HS5.out.put 2 rfl 8 (.string s.text) _ rfl
  have T1 := T0.put 2 rfl 9 (.bool s.heard) _ rfl
  refine wabsW (fun V => SB w V [(w.heap.size, (smC s (.slice ah nh ch) (.slice ag ng cg)).toArray, 89), (w.heap.size + 1, zSmC, 70), (w.heap.size + 1 + 1, #[.int .i64 s.id, .int .i64 s.st, .slice a1 nh cp1, .string s.say, .bool s.begun, .bool s.said, .int .i64 s.sent, .slice a2 ng cp2, .string s.text, .bool s.heard, .int .i64 0, .int .i64 0], 70)] ∧ V.ownsRow w.heap.size 98 3 (.slice a1 nh cp1) nh (cellsF s.head) ∧ V.ownsRow w.heap.size 98 3 (.slice a2 ng cp2) ng (cellsF s.got)) ⟨T1, K0 _ _ _ _ _ T0 rfl (K0 _ _ _ _ _ HS5.out rfl HO5.out), K1 _ _ _ _ _ T0 rfl (K1 _ _ _ _ _ HS5.out rfl HP5.out)⟩ ?_
  clear HS5 HO5 HP5 T0 T1 c8 c9 d8 d9 f8 f9
  rintro V6 ⟨S6, o6, p6⟩
  have HS6 : Hid _ := S6
  have HO6 : Hid _ := o6
  have HP6 : Hid _ := p6
  clear S6 o6 p6
  have c10 := cellE (HS6.out.at 0 rfl) 10 (.int .i64 s.fl.s) rfl
  have c11 := cellE (HS6.out.at 0 rfl) 11 (.int .i64 s.fl.r) rfl
  go_upto_region 13 with (go_at_call 43; refine (tf _).mono ?_; clear tf; rintro r W6 ⟨rfl, hb6⟩; have d10 := cellE ((HS6.out.below hb6).at 2 rfl) 10 (.int .i64 0) rfl; have d11 := cellE ((HS6.out.below hb6).at 2 rfl) 11 (.int .i64 0) rfl; have f10 := frz 10 ((HS6.out.below hb6).at 2 rfl); have f11 := frz 11 ((HS6.out.below hb6).at 2 rfl))
  have HS7 : Hid _ := HS6.out.below hb6
  have T0 := HS7.out.put 2 rfl 10 (.int .i64 s.fl.s) _ rfl
  have T1 := T0.put 2 rfl 11 (.int .i64 s.fl.r) _ rfl
  refine wabsW (fun V => SB w V [(w.heap.size, (smC s (.slice ah nh ch) (.slice ag ng cg)).toArray, 89), (w.heap.size + 1, zSmC, 70), (w.heap.size + 1 + 1, #[.int .i64 s.id, .int .i64 s.st, .slice a1 nh cp1, .string s.say, .bool s.begun, .bool s.said, .int .i64 s.sent, .slice a2 ng cp2, .string s.text, .bool s.heard, .int .i64 s.fl.s, .int .i64 s.fl.r], 70)] ∧ V.ownsRow w.heap.size 98 3 (.slice a1 nh cp1) nh (cellsF s.head) ∧ V.ownsRow w.heap.size 98 3 (.slice a2 ng cp2) ng (cellsF s.got)) ⟨T1, K0 _ _ _ _ _ T0 rfl (K0 _ _ _ _ _ HS7.out rfl (own_belowT HO6.out hb6)), K1 _ _ _ _ _ T0 rfl (K1 _ _ _ _ _ HS7.out rfl (own_belowT HP6.out hb6))⟩ ?_
  clear HS6 HO6 HP6 HS7 T0 T1 c10 c11 d10 d11 f10 f11 hb6 K0 K1
  rintro V7 ⟨S7, o7, p7⟩
  have HS7 : Hid _ := S7
  have HO7 : Hid _ := o7
  have HP7 : Hid _ := p7
  clear S7 o7 p7
  have HB7 : Hid _ := HS7.out.at 2 rfl
  have HR7 : Hid _ := HS7.out.at 1 rfl
  go_wp2_with (first | (refine wpList_load_row rfl 70 _ rfl (w.heap.size + 1 + 1) rfl 70 (smC s (.slice a1 nh cp1) (.slice a2 ng cp2)).toArray (0, 0) _ HB7.out Try.underlying70 rfl infoSm ?_) | (refine wpList_store_row rfl 70 _ _ rfl (w.heap.size + 1) (smC s (.slice a1 nh cp1) (.slice a2 ng cp2)).toArray rfl rfl 70 _ HR7.out infoSm rfl (all_oneCell_toArray (smC_one _ _ _ _ _ _ _)) ?_))
  have hg := grown_setRowT V7 (w.heap.size + 1) (smC s (.slice a1 nh cp1) (.slice a2 ng cp2)).toArray
  refine bodyPost_ret (results_cW rfl _ _ (w.heap.size + 1) _ rfl (load_sm (setRow_heap _ _ _ _ _ _ HR7.out) rfl)) rfl ⟨(.slice a1 nh cp1, .slice a2 ng cp2), rfl, ?_, ?_, HND.out, (HS7.out.row 1 rfl _).bel⟩
  · show World.ownsRow _ _ _ _ _ s.head.length _
    rw [HLH.out]
    exact own_row HO7.out hg (one_row HR7.out) (by decide)
  · show World.ownsRow _ _ _ _ _ s.got.length _
    rw [HLG.out]
    exact own_row HP7.out hg (one_row HR7.out) (by decide)
end Go.Proofs.Ytdnajdobmlgmiaa

namespace Go.Proofs.Ytdnajdobmlgmiaa
open Go.RowKit
set_option linter.unusedVariables false

theorem hidI {p : Prop} (h : p) : Hid p := h
theorem range_below {w w' : World} {b o : Nat} {cs : List Value} (h : w.rangeAt b o cs) (hb : Below w.heap.size w w') : w'.rangeAt b o cs := fun j v hv => by
  have hc := h j v hv
  rw [hb.cell (p := ⟨b, o + j, none⟩) (World.block_lt_of_cell? w _ hc)]
  exact hc
theorem range_part {w : World} {g o k : Nat} {xs ys : List Value} (h : w.rangeAt g o xs) (hy : ∀ j, j < ys.length → xs[k + j]? = ys[j]?) : w.rangeAt g (o + k) ys := by
  intro j v hv
  have hj := (List.getElem?_eq_some_iff.1 hv).1
  have := h (k + j) v (by rw [hy j hj]; exact hv)
  rwa [← Nat.add_assoc] at this
/-- Streams that were handed in. -/
structure SsA (w : World) (a : Option Addr) (n cap : Nat) (l : List Sm) : Prop where
  len : l.length = n
  nmax : n ≤ maxLen
  some' : 0 < n → ∃ g o xs, a = some ⟨g, o, none⟩ ∧ w.rangeAt g o xs ∧ SmL (FsA w) l xs
  strs : ∀ s ∈ l, s.say.size ≤ maxLen ∧ s.text.size ≤ maxLen
theorem SsA.below {w w' : World} {a : Option Addr} {n cap : Nat} {l : List Sm} (h : SsA w a n cap l) (hb : Below w.heap.size w w') : SsA w' a n cap l :=
  ⟨h.len, h.nmax, fun hn => by
    obtain ⟨g, o, xs, e, h1, h2⟩ := h.some' hn
    exact ⟨g, o, xs, e, range_below h1 hb, h2.mono (fun _ _ _ _ k => k.below hb)⟩, h.strs⟩
theorem SsA.at {w : World} {a : Option Addr} {n cap : Nat} {l : List Sm} (h : SsA w a n cap l) (k : Nat) (s : Sm) (hk : l[k]? = some s) :
    ∃ g o ah nh ch ag ng cg, a = some ⟨g, o, none⟩ ∧ w.rangeAt g (o + k * 12) (smC s (.slice ah nh ch) (.slice ag ng cg)) ∧ FsA w ah nh ch s.head ∧ FsA w ag ng cg s.got := by
  have hlt := (List.getElem?_eq_some_iff.1 hk).1
  obtain ⟨g, o, xs, e, h1, h2⟩ := h.some' (by rw [← h.len]; omega)
  obtain ⟨ah, nh, ch, ag, ng, cg, f1, f2, hc⟩ := h2.at k s hk
  exact ⟨g, o, ah, nh, ch, ag, ng, cg, e, range_part h1 (fun j hj => hc j hj), f1, f2⟩
/-- Frames that were handed in. -/
structure FrA (w : World) (a : Option Addr) (n cap : Nat) (l : List Fr) : Prop where
  len : l.length = n
  nmax : n ≤ maxLen
  some' : 0 < n → ∃ g o, a = some ⟨g, o, none⟩ ∧ w.rangeAt g o (cellsFr l)
  strs : ∀ f ∈ l, f.b.size ≤ maxLen
theorem FrA.below {w w' : World} {a : Option Addr} {n cap : Nat} {l : List Fr} (h : FrA w a n cap l) (hb : Below w.heap.size w w') : FrA w' a n cap l :=
  ⟨h.len, h.nmax, fun hn => by
    obtain ⟨g, o, e, h1⟩ := h.some' hn
    exact ⟨g, o, e, range_below h1 hb⟩, h.strs⟩
def frV4 (f : Fr) : List Value := [.int .i64 f.k, .bool f.l, .int .i64 f.s, .string f.b]
theorem cellsFr_rng (l : List Fr) (k : Nat) (f : Fr) (h : l[k]? = some f) : ∀ j, j < (frV4 f).length → (cellsFr l)[k * 4 + j]? = (frV4 f)[j]? := by
  obtain ⟨hlt, e⟩ := List.getElem?_eq_some_iff.1 h
  obtain ⟨c0, c1, c2, c3⟩ := cellsFr_at l k hlt
  rw [e] at c0 c1 c2 c3
  intro j hj
  have hj4 : j < 4 := hj
  match j, hj4 with
  | 0, _ => exact c0
  | 1, _ => exact c1
  | 2, _ => exact c2
  | 3, _ => exact c3
theorem FrA.at {w : World} {a : Option Addr} {n cap : Nat} {l : List Fr} (h : FrA w a n cap l) (k : Nat) (f : Fr) (hk : l[k]? = some f) :
    ∃ g o, a = some ⟨g, o, none⟩ ∧ w.rangeAt g (o + k * 4) (frV4 f) := by
  have hlt := (List.getElem?_eq_some_iff.1 hk).1
  obtain ⟨g, o, e, h1⟩ := h.some' (by rw [← h.len]; omega)
  exact ⟨g, o, e, range_part h1 (fun j hj => cellsFr_rng l k f hk j hj)⟩
/-- An end that was handed in. -/
structure EdA (w : World) (e : Ed) (o i s q : Value) : Prop where
  out : ∃ a n c, o = .slice a n c ∧ FsA w a n c e.out
  inn : ∃ a n c, i = .slice a n c ∧ FsA w a n c e.inn
  sts : ∃ a n c, s = .slice a n c ∧ SsA w a n c e.sts
  wait : ∃ a n c, q = .slice a n c ∧ FrA w a n c e.wait
  came : e.came.size ≤ maxLen
theorem EdA.below {w w' : World} {e : Ed} {o i s q : Value} (h : EdA w e o i s q) (hb : Below w.heap.size w w') : EdA w' e o i s q := by
  obtain ⟨⟨a1, n1, c1, e1, h1⟩, ⟨a2, n2, c2, e2, h2⟩, ⟨a3, n3, c3, e3, h3⟩, ⟨a4, n4, c4, e4, h4⟩, hc⟩ := h
  exact ⟨⟨a1, n1, c1, e1, h1.below hb⟩, ⟨a2, n2, c2, e2, h2.below hb⟩, ⟨a3, n3, c3, e3, h3.below hb⟩, ⟨a4, n4, c4, e4, h4.below hb⟩, hc⟩
theorem rd_at {w : World} {a : Option Addr} {n cap size k : Nat} {xs ys : List Value} (h : Rw w a n cap size xs) (hk : k + ys.length ≤ n * size) (hz : 0 < ys.length) (hy : ∀ j, j < ys.length → xs[k + j]? = ys[j]?) : ∃ g o, a = some ⟨g, o, none⟩ ∧ w.rangeAt g (o + k) ys := by
  rcases h.form with ⟨rfl, h0, _⟩ | ⟨g, o, rfl⟩
  · subst h0
    omega
  · refine ⟨g, o, rfl, ?_⟩
    intro j v hv
    have hj := (List.getElem?_eq_some_iff.1 hv).1
    have := h.cells g o rfl (k + j) v (by rw [hy j hj]; exact hv)
    rwa [← Nat.add_assoc] at this
theorem infoSmL : (Try.prog.info? 89).map (·.size) = some 12 := by kernel_rfl
theorem infoFrL : (Try.prog.info? 91).map (·.size) = some 4 := by kernel_rfl
theorem infoFrI : (Try.prog.info? 73).map (·.size) = some 4 := by kernel_rfl
theorem take_putL {xs vs : List Value} {o : Nat} (h : o + vs.length ≤ xs.length) : (putL xs o vs).take (o + vs.length) = xs.take o ++ vs := by
  unfold putL
  have hl : (xs.take o ++ vs).length = o + vs.length := by rw [List.length_append, List.length_take]; omega
  rw [← hl, List.take_left]
theorem own_made (w : World) (M : Array Value) (t : TypeId) (z n : Nat) (hM : M.size = n * z) (hn : n ≤ maxLen) : (w.alloc (.cells M t)).ownsRow w.heap.size t z (.slice (some ⟨w.heap.size, 0, none⟩) n n) n M.toList :=
  ⟨by rw [Array.length_toList, hM], .inr ⟨w.heap.size, n, M, rfl, Nat.le_refl _, heap_alloc_last w _, Nat.le_refl _, hn, hM, by rw [List.take_of_length_le (by rw [Array.length_toList, hM]; omega)]⟩⟩
theorem own_cap {w : World} {base size n cap g : Nat} {t : TypeId} {xs : List Value} (h : w.ownsRow base t size (.slice (some ⟨g, 0, none⟩) n cap) n xs) {ys : List Value} (e : xs = ys) : w.ownsRow base t size (.slice (some ⟨g, 0, none⟩) n cap) n ys := e ▸ h

set_option maxRecDepth 100000 in
set_option maxHeartbeats 4000000 in
theorem toFrameS_any (l : List Fr) (a : Option Addr) (n cap : Nat) (w : World) (hf : FrA w a n cap l) (hn : n ≤ 1048576) :
    Calls Try.prog 44 #[.slice a n cap] w fun e w' => ∃ v, e = .returned v ∧ w'.ownsRow w.heap.size 73 4 v n (cellsFr l) ∧ Below w.heap.size w w' := by
  have HF : Hid (FrA w a n cap l) := hf
  obtain rfl : l.length = n := hf.len
  have hm2 : l.length ≤ 1048576 := hn
  clear hf hn
  obtain ⟨ii, hi, hz0, hz1, hz2⟩ := info_parts infoFrB
  have hmk := fun w => run_make (P := Try.prog) w 28 73 ii (.agg zFrC) Try.underlying28 hi hz0 .i64 .i64 (l.length : Int) (l.length : Int) (by omega) (by omega) (by rw [hz2]; omega) (by omega)
  obtain ⟨M, hM⟩ : ∃ M, madeCells (Value.agg zFrC).cells (((l.length : Nat) : Int).toNat * ii.size) = M := ⟨_, rfl⟩
  have hMs : M.size = l.length * 4 := by rw [← hM, size_madeCells, hz1]; simp
  rw [hM] at hmk
  simp only [Int.toNat_natCast] at hmk
  have HA : Hid _ := own_made w M 73 4 l.length hMs (by unfold maxLen; omega)
  clear hM hMs
  go_enter Try.func44, Try.ntmps44
  go_wp2
  go_loopw [4] (fun i wr => ∃ (k : Nat) (xs : List Value), k ≤ l.length ∧ i = .int .i64 k ∧ wr.ownsRow w.heap.size 73 4 (.slice (some ⟨w.heap.size, 0, none⟩) l.length l.length) l.length xs ∧ xs.take (k * 4) = cellsFr (l.take k) ∧ Below w.heap.size w wr) (fun i _ => l.length - (intOf i).toNat)
  case atStart => exact ⟨0, _, by omega, rfl, HA.out, by simp [cellsFr], (Below.refl _ _).alloc (Nat.le_refl _) _⟩
  case round =>
    clear hmk
    obtain ⟨k, xs, hk, rfl, ho, htk, hbel⟩ := hrel
    have HO : Hid _ := ho
    have HTK : Hid _ := htk
    clear ho htk
    by_cases hlt : k < l.length
    · have hlt' : (k : Int) < l.length := by omega
      have hk0 : (0 : Int) ≤ k := by omega
      have hkl : k < l.length := by omega
      obtain ⟨f, hff⟩ : ∃ f, l[k]? = some f := ⟨_, List.getElem?_eq_getElem hkl⟩
      obtain ⟨g, o, rfl, hr⟩ := (HF.out.below hbel).at k f hff
      have HR : Hid _ := hr
      have HST : Hid (l.take (k + 1) = l.take k ++ [f]) := by
        show _ = _
        rw [List.take_add_one, hff]
        rfl
      have htf := fun w => toFrame_any f w
      have hxl : xs.length = l.length * 4 := HO.out.1
      have HTH : Hid _ := hxl
      have HLE : Hid (k * 4 + 4 ≤ xs.length) := by show k * 4 + 4 ≤ xs.length; omega
      clear hff hr hxl
      go_wp2_with (first | (refine wpList_load_mid rfl 91 _ rfl g (o + k * 4) rfl (frV4 f) _ HR.out Try.underlying91 rfl infoFrL ?_) | (go_at_call 66; refine (htf _).mono ?_; clear htf; rintro e w1 ⟨rfl, hb1⟩; refine Hid.out ?_))
      refine hidI ?_
      have HO1 : Hid _ := own_belowT HO.out hb1
      have HB1 : Hid _ := bt' hbel hb1
      have HLE2 : Hid (k * 4 + (frV4 f).length ≤ xs.length) := HLE.out
      have HO2 : Hid _ := own_setCells (vs := frV4 f) (o := k * 4) HO1.out HLE2.out
      have HTR : Hid (w1.there w.heap.size (k * 4) (frV4 f).toArray.size) := own_there HO1.out HLE.out
      have HONE : Hid ((frV4 f).toArray.all (·.oneCell') = true) := by show _ = true; simp [frV4, Value.oneCell']
      clear hb1 hbel
      go_wp2_with (refine wpList_store_mid rfl 73 _ _ rfl w.heap.size (k * 4) (frV4 f).toArray rfl rfl HTR.out infoFrI HONE.out ?_; refine Hid.out ?_)
      refine hidI ?_
      go_wp2_with fail
      go_roundw
      case rel =>
        refine ⟨k + 1, _, by omega, by go_num, HO2.out, ?_, ?_⟩
        · have h4 : (k + 1) * 4 = k * 4 + (frV4 f).length := by show (k + 1) * 4 = k * 4 + 4; omega
          rw [h4, take_putL HLE2.out, HTK.out, HST.out, cellsFr_append]
          rfl
        · exact HB1.out.trans ((Kp.setCells (X := fun g => g = w.heap.size) w.heap.size rfl (frV4 f) (k * 4) w1).to_below HB1.out.size (fun g hg => by have : g = w.heap.size := hg; omega))
      case measure => simp [intOf]; omega
    · have hkl : k = l.length := by omega
      subst hkl
      have HL : Hid (xs = cellsFr l) := by
        show xs = cellsFr l
        have h1 := HTK.out
        rw [List.take_of_length_le (by have := HO.out.1; omega), List.take_of_length_le (by omega)] at h1
        exact h1
      go_wp2
      go_ret
      exact ⟨_, rfl, own_cap HO.out HL.out, hbel⟩

end Go.Proofs.Ytdnajdobmlgmiaa

namespace Go.Proofs.Ytdnajdobmlgmiaa
open Go.RowKit
set_option linter.unusedVariables false

set_option maxRecDepth 100000 in
set_option maxHeartbeats 4000000 in
theorem toStreamS_any (l : List Sm) (a : Option Addr) (n cap : Nat) (w : World) (hf : SsA w a n cap l) (hn : n ≤ 1048576) (hbd : ∀ s ∈ l, s.head.length ≤ 1048576 ∧ s.got.length ≤ 1048576) :
    Calls Try.prog 42 #[.slice a n cap] w fun e w' => ∃ v hg, e = .returned v ∧ hg.length = l.length ∧ (∀ (k : Nat) (t : Sm) (x : Value × Value), l[k]? = some t → hg[k]? = some x → FO w' w.heap.size x.1 t.head ∧ FO w' w.heap.size x.2 t.got) ∧ w'.ownsRow w.heap.size 70 12 v n (cellsS l hg) ∧ (hgF hg).Nodup ∧ Below w.heap.size w w' := by
  have HF : Hid (SsA w a n cap l) := hf
  have HBD : Hid _ := hbd
  obtain rfl : l.length = n := hf.len
  have hm2 : l.length ≤ 1048576 := hn
  clear hf hbd hn
  obtain ⟨ii, hi, hz0, hz1, hz2⟩ := info_parts infoSmB
  have hmk := fun w => run_make (P := Try.prog) w 25 70 ii (.agg zSmC) Try.underlying25 hi hz0 .i64 .i64 (l.length : Int) (l.length : Int) (by omega) (by omega) (by rw [hz2]; omega) (by omega)
  obtain ⟨M, hM⟩ : ∃ M, madeCells (Value.agg zSmC).cells (((l.length : Nat) : Int).toNat * ii.size) = M := ⟨_, rfl⟩
  have hMs : M.size = l.length * 12 := by rw [← hM, size_madeCells, hz1]; simp
  rw [hM] at hmk
  simp only [Int.toNat_natCast] at hmk
  have HA : Hid _ := own_made w M 70 12 l.length hMs (by unfold maxLen; omega)
  clear hM hMs
  go_enter Try.func42, Try.ntmps42
  go_wp2
  go_loopw [4] (fun i wr => ∃ (k : Nat) (xs : List Value) (hg : List (Value × Value)), k ≤ l.length ∧ i = .int .i64 k ∧ wr.ownsRow w.heap.size 70 12 (.slice (some ⟨w.heap.size, 0, none⟩) l.length l.length) l.length xs ∧ hg.length = k ∧ xs.take (k * 12) = cellsS (l.take k) hg ∧ (∀ (j : Nat) (t : Sm) (x : Value × Value), l[j]? = some t → hg[j]? = some x → FO wr w.heap.size x.1 t.head ∧ FO wr w.heap.size x.2 t.got) ∧ (hgF hg).Nodup ∧ Below w.heap.size w wr) (fun i _ => l.length - (intOf i).toNat)
  case atStart => exact ⟨0, _, [], by omega, rfl, HA.out, rfl, by simp [cellsS], (by intro j t x _ h; simp at h), by simp [hgF], (Below.refl _ _).alloc (Nat.le_refl _) _⟩
  case round =>
    clear hmk
    obtain ⟨k, xs, hg, hk, rfl, ho, hgl, htk, hhd, hnd, hbel⟩ := hrel
    have HO : Hid _ := ho
    have HTK : Hid _ := htk
    have HGL : Hid _ := hgl
    have HHD : Hid (∀ (j : Nat) (t : Sm) (x : Value × Value), l[j]? = some t → hg[j]? = some x → FO wr w.heap.size x.1 t.head ∧ FO wr w.heap.size x.2 t.got) := hhd
    have HND : Hid _ := hnd
    clear ho htk hgl hhd hnd
    by_cases hlt : k < l.length
    · have hlt' : (k : Int) < l.length := by omega
      have hk0 : (0 : Int) ≤ k := by omega
      have hkl : k < l.length := by omega
      obtain ⟨t, hff⟩ : ∃ t, l[k]? = some t := ⟨_, List.getElem?_eq_getElem hkl⟩
      have hbt := HBD.out t (List.mem_of_getElem? hff)
      obtain ⟨g, o, ah, nh, ch, ag, ng, cg, rfl, hr, fh, fg⟩ := (HF.out.below hbel).at k t hff
      have HR : Hid _ := hr
      have HST : Hid (l.take (k + 1) = l.take k ++ [t]) := by
        show _ = _
        rw [List.take_add_one, hff]
        rfl
      have hts := toStream_any t ah ag nh ch ng cg wr fh fg (by have := fh.len; omega) (by have := fg.len; omega)
      have hxl : xs.length = l.length * 12 := HO.out.1
      have HTH : Hid _ := hxl
      have HFF : Hid _ := hff
      clear hff hr fh fg hbt
      have HLE : Hid (k * 12 + 12 ≤ xs.length) := by show k * 12 + 12 ≤ xs.length; omega
      clear hxl
      go_wp2_with (first | (refine wpList_load_mid rfl 89 _ rfl g (o + k * 12) rfl (smC t (.slice ah nh ch) (.slice ag ng cg)) _ HR.out Try.underlying89 rfl infoSmL ?_) | (go_at_call 65; refine hts.mono ?_; clear hts; rintro e w1 ⟨x, rfl, ho1, ho2, hnd1, hb1⟩; have HO1 : Hid _ := own_belowT HO.out hb1; obtain ⟨x1, x2⟩ := x; obtain ⟨a1, c1, rfl⟩ := own_formT ho1; obtain ⟨a2, c2, rfl⟩ := own_formT ho2; refine Hid.out ?_))
      refine hidI ?_
      have HTR : Hid (w1.there w.heap.size (k * 12) (smC t (.slice a1 t.head.length c1) (.slice a2 t.got.length c2)).toArray.size) := own_there HO1.out HLE.out
      have HONE : Hid _ := all_oneCell_toArray (smC_one t a1 a2 t.head.length c1 t.got.length c2)
      have hsz1 := hb1.size
      have HX1 : Hid _ := ho1
      have HX2 : Hid _ := ho2
      have HN1 : Hid _ := hnd1
      have HB1 : Hid _ := hb1
      have HBE : Hid _ := hbel
      clear ho1 ho2 hnd1 hb1 hbel hsz1
      go_wp2_with (refine wpList_store_mid rfl 70 _ _ rfl w.heap.size (k * 12) (smC t (.slice a1 t.head.length c1) (.slice a2 t.got.length c2)).toArray rfl rfl HTR.out infoSm HONE.out ?_; refine Hid.out ?_)
      have ho1 := HX1.out
      have ho2 := HX2.out
      have hnd1 := HN1.out
      have hb1 := HB1.out
      have hbel := HBE.out
      have HLE2 : Hid (k * 12 + (smC t (.slice a1 t.head.length c1) (.slice a2 t.got.length c2)).length ≤ xs.length) := HLE.out
      have HOS : Hid _ := own_setCells (vs := smC t (.slice a1 t.head.length c1) (.slice a2 t.got.length c2)) (o := k * 12) HO1.out HLE2.out
      obtain ⟨V, hV⟩ : ∃ V, w1.setCells w.heap.size (k * 12) (smC t (.slice a1 t.head.length c1) (.slice a2 t.got.length c2)) = V := ⟨_, rfl⟩
      have HV : Hid _ := hV
      have HKP : Hid (Kp (fun g => g = w.heap.size) w1 V) := by show Kp (fun g => g = w.heap.size) w1 V; rw [← hV]; exact Kp.setCells (X := fun g => g = w.heap.size) w.heap.size rfl _ _ _
      have HKEEP : Hid (∀ {b : Nat} {v : Value} {fs : List Fd}, FO w1 b v fs → FO V b v fs) := fun {b} {v} {fs} h => by
        refine Kp.own HKP.out h ?_
        intro g hg hx
        have hx' : g = w.heap.size := hx
        subst hx'
        obtain ⟨cur, hc⟩ := own_row_typ h w.heap.size hg
        obtain ⟨cur', hc'⟩ := own_row_typ HO1.out w.heap.size rfl
        exact typ_ne hc hc' (by decide) rfl
      have hsz := (bt' hbel hb1).size
      have hszr := hbel.size
      have hsz1 := hb1.size
      have HS1 : Hid _ := hsz
      have HS2 : Hid _ := hszr
      clear ho1 ho2 hnd1 hb1 hbel hV hsz hszr hsz1
      refine hidI ?_
      go_wp2_with fail
      go_roundw
      case rel =>
        have ho1 := HX1.out
        have ho2 := HX2.out
        have hnd1 := HN1.out
        have hb1 := HB1.out
        have hbel := HBE.out
        refine ⟨k + 1, _, hg ++ [(.slice a1 t.head.length c1, .slice a2 t.got.length c2)], by omega, by go_num, HOS.out, by rw [List.length_append, HGL.out]; rfl, ?_, ?_, ?_, ?_⟩
        · have h4 : (k + 1) * 12 = k * 12 + (smC t (.slice a1 t.head.length c1) (.slice a2 t.got.length c2)).length := by show (k + 1) * 12 = k * 12 + 12; omega
          rw [h4, take_putL HLE2.out, HTK.out, HST.out, cellsS_snoc _ _ _ _ (by rw [HGL.out, List.length_take]; omega)]
        · intro j u y hj hy
          show FO (w1.setCells w.heap.size (k * 12) _) _ _ _ ∧ FO (w1.setCells w.heap.size (k * 12) _) _ _ _
          rw [HV.out]
          by_cases hjk : j < k
          · rw [List.getElem?_append_left (by rw [HGL.out]; exact hjk)] at hy
            obtain ⟨k1, k2⟩ := HHD.out j u y hj hy
            exact ⟨HKEEP.out (own_belowT k1 hb1), HKEEP.out (own_belowT k2 hb1)⟩
          · rw [List.getElem?_append_right (by rw [HGL.out]; omega), HGL.out] at hy
            have : j = k := by
              have := (List.getElem?_eq_some_iff.1 hy).1
              simp at this
              omega
            subst this
            simp at hy
            subst hy
            rw [HFF.out] at hj
            injection hj with hj
            subst hj
            exact ⟨HKEEP.out (own_baseT ho1 HS2.out), HKEEP.out (own_baseT ho2 HS2.out)⟩
        · rw [hgF_snoc]
          refine nodup_behind (N := wr.heap.size) HND.out hnd1 ?_ ?_
          · intro g hgm
            obtain ⟨j, y, hy, h⟩ := mem_hgF hgm
            have hjl := (List.getElem?_eq_some_iff.1 hy).1
            rw [HGL.out] at hjl
            obtain ⟨k1, k2⟩ := HHD.out j _ y (List.getElem?_eq_getElem (by omega)) hy
            rcases h with h | h
            · exact (own_lt k1 h).2
            · exact (own_lt k2 h).2
          · intro g hgm
            rcases two_mem (a := (Value.slice a1 t.head.length c1).ownBlock) (b := (Value.slice a2 t.got.length c2).ownBlock) hgm with h | h
            · exact (own_lt ho1 h).1
            · exact (own_lt ho2 h).1
        · show Below _ _ (w1.setCells w.heap.size (k * 12) _)
          rw [HV.out]
          exact (bt' hbel hb1).trans (HKP.out.to_below HS1.out (fun g hg => by have : g = w.heap.size := hg; omega))
      case measure => simp [intOf]; omega
    · have hkl : k = l.length := by omega
      subst hkl
      have HL : Hid (xs = cellsS l hg) := by
        show xs = cellsS l hg
        have h1 := HTK.out
        rw [List.take_of_length_le (by have := HO.out.1; omega), List.take_of_length_le (by omega)] at h1
        exact h1
      go_wp2
      go_ret
      exact ⟨_, hg, rfl, by rw [HGL.out], HHD.out, own_cap HO.out HL.out, HND.out, hbel⟩
end Go.Proofs.Ytdnajdobmlgmiaa

namespace Go.Proofs.Ytdnajdobmlgmiaa
open Go.RowKit
set_option linter.unusedVariables false

/-- All blocks but those of ends are as they were. -/
def Kt (w w' : World) : Prop := ∀ (b : Nat) (cs : Array Value) (t : TypeId) (f : Nat × Nat), w.heap[b]? = some (.cells cs t f) → t ≠ 30 → w'.heap[b]? = some (.cells cs t f)
theorem Kt.trans {a b c : World} (h : Kt a b) (k : Kt b c) : Kt a c := fun g cs t f hg ht => k g cs t f (h g cs t f hg ht) ht
theorem Kt.set {w : World} {g : Nat} {cs : Array Value} (h : w.heap[g]? = some (.cells cs 30 (0, 0))) (j : Nat) (v : Value) : Kt w (w.setCell ⟨g, j, none⟩ v) := fun b ds t f hb ht => setOther v hb (typ_ne hb h ht)
theorem Kt.row {w : World} {g : Nat} {cs : Array Value} (h : w.heap[g]? = some (.cells cs 30 (0, 0))) (ds : Array Value) : Kt w (w.setRow g ds) := fun b es t f hb ht => setRow_otherE ds hb (typ_ne hb h ht)
theorem own_kt {w w' : World} {base size n : Nat} {t : TypeId} {v : Value} {xs : List Value} (h : w.ownsRow base t size v n xs) (ht : t ≠ 30) (k : Kt w w') : w'.ownsRow base t size v n xs := by
  refine ⟨h.1, ?_⟩
  rcases h.2 with hn | ⟨g, cap, cur, rfl, hb, hgg, rest⟩
  · exact .inl hn
  · exact .inr ⟨g, cap, cur, rfl, hb, k g cur t (0, 0) hgg ht, rest⟩
/-- Streams of one's own. -/
structure So (w : World) (B : Nat) (l : List Sm) (s : Value) (hg : List (Value × Value)) : Prop where
  lh : hg.length = l.length
  hd : ∀ (k : Nat) (t : Sm) (x : Value × Value), l[k]? = some t → hg[k]? = some x → FO w B x.1 t.head ∧ FO w B x.2 t.got
  row : w.ownsRow B 70 12 s l.length (cellsS l hg)
theorem So.kt {w w' : World} {B : Nat} {l : List Sm} {s : Value} {hg : List (Value × Value)} (h : So w B l s hg) (k : Kt w w') : So w' B l s hg :=
  ⟨h.lh, fun j t x h1 h2 => ⟨own_kt (h.hd j t x h1 h2).1 (by decide) k, own_kt (h.hd j t x h1 h2).2 (by decide) k⟩, own_kt h.row (by decide) k⟩
theorem So.below {w w' : World} {B : Nat} {l : List Sm} {s : Value} {hg : List (Value × Value)} (h : So w B l s hg) (hb : Below w.heap.size w w') : So w' B l s hg :=
  ⟨h.lh, fun j t x h1 h2 => ⟨own_belowT (h.hd j t x h1 h2).1 hb, own_belowT (h.hd j t x h1 h2).2 hb⟩, own_belowT h.row hb⟩
theorem So.base {w : World} {B B' : Nat} {l : List Sm} {s : Value} {hg : List (Value × Value)} (h : So w B l s hg) (hb : B' ≤ B) : So w B' l s hg :=
  ⟨h.lh, fun j t x h1 h2 => ⟨own_baseT (h.hd j t x h1 h2).1 hb, own_baseT (h.hd j t x h1 h2).2 hb⟩, own_baseT h.row hb⟩
theorem So.lt {w : World} {B : Nat} {l : List Sm} {s : Value} {hg : List (Value × Value)} (h : So w B l s hg) : ∀ g ∈ hgF hg, B ≤ g ∧ g < w.heap.size := by
  intro g hgm
  obtain ⟨j, y, hy, hh⟩ := mem_hgF hgm
  have hjl := (List.getElem?_eq_some_iff.1 hy).1
  have hj2 : j < l.length := by have := h.lh; omega
  obtain ⟨k1, k2⟩ := h.hd j _ y (List.getElem?_eq_getElem hj2) hy
  rcases hh with hh | hh
  · exact own_lt k1 hh
  · exact own_lt k2 hh
/-- What an end has, so many at most. -/
structure EdLn (e : Ed) : Prop where
  out : e.out.length ≤ 1048576
  inn : e.inn.length ≤ 1048576
  sts : e.sts.length ≤ 1048576
  hd : ∀ s ∈ e.sts, s.head.length ≤ 1048576 ∧ s.got.length ≤ 1048576
  wait : e.wait.length ≤ 1048576

set_option maxRecDepth 100000 in
set_option maxHeartbeats 20000000 in
theorem toEnd_any (e : Ed) (o i s q : Value) (w : World) (ha : EdA w e o i s q) (hl : EdLn e) :
    Calls Try.prog 21 #[.agg (edC e o i s q)] w fun r w' => ∃ o' i' s' q' hg, r = .returned (.agg (edC e o' i' s' q')) ∧ Eo w' w.heap.size e o' i' s' q' hg ∧ Below w.heap.size w w' := by
  obtain ⟨⟨ao, no, co, rfl, fo⟩, ⟨ai, ni, ci, rfl, fi⟩, ⟨aS, ns, cS, rfl, fs⟩, ⟨aw, nw, cw, rfl, fw⟩, hcm⟩ := ha
  obtain rfl : e.out.length = no := fo.len
  obtain rfl : e.inn.length = ni := fi.len
  obtain rfl : e.sts.length = ns := fs.len
  obtain rfl : e.wait.length = nw := fw.len
  have HFO : Hid (FsA w ao e.out.length co e.out) := fo
  have HFI : Hid (FsA w ai e.inn.length ci e.inn) := fi
  have HFS : Hid (SsA w aS e.sts.length cS e.sts) := fs
  have HFW : Hid (FrA w aw e.wait.length cw e.wait) := fw
  have tto := fun W (h : FsA W ao e.out.length co e.out) => toTable_any e.out ao e.out.length co e.outM W h (by have := hl.out; omega)
  have tti := fun W (h : FsA W ai e.inn.length ci e.inn) => toTable_any e.inn ai e.inn.length ci e.innM W h (by have := hl.inn; omega)
  have tts := fun W (h : SsA W aS e.sts.length cS e.sts) => toStreamS_any e.sts aS e.sts.length cS W h (by have := hl.sts; omega) hl.hd
  have ttw := fun W (h : FrA W aw e.wait.length cw e.wait) => toFrameS_any e.wait aw e.wait.length cw W h (by have := hl.wait; omega)
  have ttf := fun W => toFlow_any e.fl W
  unfold TabAns at tto tti
  have S0 := (((SB.start w).alloc (edC e (.slice ao e.out.length co) (.slice ai e.inn.length ci) (.slice aS e.sts.length cS) (.slice aw e.wait.length cw)) 44).alloc zEdC 30).alloc zEdC 30
  simp only [World.size_alloc] at S0
  have HS0 : Hid _ := S0
  clear S0 fo fi fs fw hl hcm
  go_enter Try.func21, Try.ntmps21
  go_upto_region 2 with fail
  refine wabsW (fun V => SB w V [(w.heap.size, (edC e (.slice ao e.out.length co) (.slice ai e.inn.length ci) (.slice aS e.sts.length cS) (.slice aw e.wait.length cw)), 44), (w.heap.size + 1, zEdC, 30), (w.heap.size + 1 + 1, #[.bool false, .slice none 0 0, .int .i64 0, .slice none 0 0, .int .i64 0, .string ⟨#[]⟩, .slice none 0 0, .int .i64 0, .int .i64 0, .slice none 0 0, .bool false], 30)]) HS0.out ?_
  clear HS0
  rintro V1 S_
  have HSV1 : Hid _ := S_
  clear S_ 
  have c0 := cellE (HSV1.out.at 0 rfl) 0 (.bool e.ans) rfl
  have d0 := cellE (HSV1.out.at 2 rfl) 0 (.bool false) rfl
  have f0 := frz 0 (HSV1.out.at 2 rfl)
  go_upto_region 3 with fail
  have T0 := HSV1.out.put 2 rfl 0 (.bool e.ans) _ rfl
  have KT := (Kt.set (HSV1.out.at 2 rfl) 0 (.bool e.ans))
  refine wabsW (fun V => SB w V [(w.heap.size, (edC e (.slice ao e.out.length co) (.slice ai e.inn.length ci) (.slice aS e.sts.length cS) (.slice aw e.wait.length cw)), 44), (w.heap.size + 1, zEdC, 30), (w.heap.size + 1 + 1, #[.bool e.ans, .slice none 0 0, .int .i64 0, .slice none 0 0, .int .i64 0, .string ⟨#[]⟩, .slice none 0 0, .int .i64 0, .int .i64 0, .slice none 0 0, .bool false], 30)]) T0 ?_
  clear HSV1 T0 KT c0 d0 f0
  rintro V2 S_
  have HSV2 : Hid _ := S_
  clear S_ 
  have c1 := cellE (HSV2.out.at 0 rfl) 1 (.slice ao e.out.length co) rfl
  have c2 := cellE (HSV2.out.at 0 rfl) 2 (.int .i64 e.outM) rfl
  go_upto_region 4 with (go_at_call 41; refine (tto _ (HFO.out.below HSV2.out.bel)).mono ?_; clear tto; rintro r W ⟨x1, rfl, ho1, hb⟩; obtain ⟨a1, cp1, rfl⟩ := own_formT ho1; have d1 := cellE ((HSV2.out.below hb).at 2 rfl) 1 (.slice none 0 0) rfl; have f1 := frz 1 ((HSV2.out.below hb).at 2 rfl); have d2 := cellE ((HSV2.out.below hb).at 2 rfl) 2 (.int .i64 0) rfl; have f2 := frz 2 ((HSV2.out.below hb).at 2 rfl))
  have HW : Hid _ := HSV2.out.below hb
  have T0 := HW.out.put 2 rfl 1 (.slice a1 e.out.length cp1) _ rfl
  have T1 := T0.put 2 rfl 2 (.int .i64 e.outM) _ rfl
  have KT := ((Kt.set (HW.out.at 2 rfl) 1 (.slice a1 e.out.length cp1)).trans (Kt.set (T0.at 2 rfl) 2 (.int .i64 e.outM)))
  refine wabsW (fun V => SB w V [(w.heap.size, (edC e (.slice ao e.out.length co) (.slice ai e.inn.length ci) (.slice aS e.sts.length cS) (.slice aw e.wait.length cw)), 44), (w.heap.size + 1, zEdC, 30), (w.heap.size + 1 + 1, #[.bool e.ans, .slice a1 e.out.length cp1, .int .i64 e.outM, .slice none 0 0, .int .i64 0, .string ⟨#[]⟩, .slice none 0 0, .int .i64 0, .int .i64 0, .slice none 0 0, .bool false], 30)] ∧ FO V w.heap.size (.slice a1 e.out.length cp1) e.out) ⟨T1, own_kt (own_baseT ho1 HSV2.out.bel.size) (by decide) KT⟩ ?_
  clear HSV2 HW T0 T1 KT c1 c2 d1 d2 f1 f2 ho1 hb
  rintro V3 ⟨S_, oo⟩
  have HSV3 : Hid _ := S_
  have HoV3 : Hid _ := oo
  clear S_ oo
  have c3 := cellE (HSV3.out.at 0 rfl) 3 (.slice ai e.inn.length ci) rfl
  have c4 := cellE (HSV3.out.at 0 rfl) 4 (.int .i64 e.innM) rfl
  go_upto_region 5 with (go_at_call 41; refine (tti _ (HFI.out.below HSV3.out.bel)).mono ?_; clear tti; rintro r W ⟨x2, rfl, ho2, hb⟩; obtain ⟨a2, cp2, rfl⟩ := own_formT ho2; have d3 := cellE ((HSV3.out.below hb).at 2 rfl) 3 (.slice none 0 0) rfl; have f3 := frz 3 ((HSV3.out.below hb).at 2 rfl); have d4 := cellE ((HSV3.out.below hb).at 2 rfl) 4 (.int .i64 0) rfl; have f4 := frz 4 ((HSV3.out.below hb).at 2 rfl))
  have HW : Hid _ := HSV3.out.below hb
  have HND : Hid ([(Value.slice a1 e.out.length cp1).ownBlock, (Value.slice a2 e.inn.length cp2).ownBlock].filterMap id).Nodup := two_nodup (fun g g2 h h2 => by have h3 := (own_lt HoV3.out h).2; have h4 := (own_lt ho2 h2).1; omega)
  have T0 := HW.out.put 2 rfl 3 (.slice a2 e.inn.length cp2) _ rfl
  have T1 := T0.put 2 rfl 4 (.int .i64 e.innM) _ rfl
  have KT := ((Kt.set (HW.out.at 2 rfl) 3 (.slice a2 e.inn.length cp2)).trans (Kt.set (T0.at 2 rfl) 4 (.int .i64 e.innM)))
  refine wabsW (fun V => SB w V [(w.heap.size, (edC e (.slice ao e.out.length co) (.slice ai e.inn.length ci) (.slice aS e.sts.length cS) (.slice aw e.wait.length cw)), 44), (w.heap.size + 1, zEdC, 30), (w.heap.size + 1 + 1, #[.bool e.ans, .slice a1 e.out.length cp1, .int .i64 e.outM, .slice a2 e.inn.length cp2, .int .i64 e.innM, .string ⟨#[]⟩, .slice none 0 0, .int .i64 0, .int .i64 0, .slice none 0 0, .bool false], 30)] ∧ FO V w.heap.size (.slice a1 e.out.length cp1) e.out ∧ FO V w.heap.size (.slice a2 e.inn.length cp2) e.inn) ⟨T1, (own_kt (own_belowT HoV3.out hb) (by decide) KT), own_kt (own_baseT ho2 HSV3.out.bel.size) (by decide) KT⟩ ?_
  clear HSV3 HoV3 HW T0 T1 KT c3 c4 d3 d4 f3 f4 ho2 hb
  rintro V4 ⟨S_, oo, oi⟩
  have HSV4 : Hid _ := S_
  have HoV4 : Hid _ := oo
  have HiV4 : Hid _ := oi
  clear S_ oo oi
  have c5 := cellE (HSV4.out.at 0 rfl) 5 (.string e.came) rfl
  have d5 := cellE (HSV4.out.at 2 rfl) 5 (.string ⟨#[]⟩) rfl
  have f5 := frz 5 (HSV4.out.at 2 rfl)
  go_upto_region 6 with fail
  have T0 := HSV4.out.put 2 rfl 5 (.string e.came) _ rfl
  have KT := (Kt.set (HSV4.out.at 2 rfl) 5 (.string e.came))
  refine wabsW (fun V => SB w V [(w.heap.size, (edC e (.slice ao e.out.length co) (.slice ai e.inn.length ci) (.slice aS e.sts.length cS) (.slice aw e.wait.length cw)), 44), (w.heap.size + 1, zEdC, 30), (w.heap.size + 1 + 1, #[.bool e.ans, .slice a1 e.out.length cp1, .int .i64 e.outM, .slice a2 e.inn.length cp2, .int .i64 e.innM, .string e.came, .slice none 0 0, .int .i64 0, .int .i64 0, .slice none 0 0, .bool false], 30)] ∧ FO V w.heap.size (.slice a1 e.out.length cp1) e.out ∧ FO V w.heap.size (.slice a2 e.inn.length cp2) e.inn) ⟨T0, (own_kt HoV4.out (by decide) KT), (own_kt HiV4.out (by decide) KT)⟩ ?_
  clear HSV4 HoV4 HiV4 T0 KT c5 d5 f5
  rintro V5 ⟨S_, oo, oi⟩
  have HSV5 : Hid _ := S_
  have HoV5 : Hid _ := oo
  have HiV5 : Hid _ := oi
  clear S_ oo oi
  have c6 := cellE (HSV5.out.at 0 rfl) 6 (.slice aS e.sts.length cS) rfl
  go_upto_region 7 with (go_at_call 42; refine (tts _ (HFS.out.below HSV5.out.bel)).mono ?_; clear tts; rintro r W ⟨v3, hg, rfl, hgl, hgd, hgo, hgn, hb⟩; obtain ⟨a3, cp3, rfl⟩ := own_formT hgo; have d6 := cellE ((HSV5.out.below hb).at 2 rfl) 6 (.slice none 0 0) rfl; have f6 := frz 6 ((HSV5.out.below hb).at 2 rfl))
  have HW : Hid _ := HSV5.out.below hb
  have hso : So W V5.heap.size e.sts (.slice a3 e.sts.length cp3) hg := ⟨hgl, hgd, hgo⟩
  have HN2 : Hid (rowsF (Value.slice a1 e.out.length cp1) (Value.slice a2 e.inn.length cp2) hg).Nodup := by
    show List.Nodup _
    rw [rowsF_eq]
    refine nodup_behind (N := V5.heap.size) HND.out hgn ?_ (fun g hgm => (hso.lt g hgm).1)
    intro g hgm
    rcases two_mem hgm with h | h
    · exact (own_lt HoV5.out h).2
    · exact (own_lt HiV5.out h).2
  have T0 := HW.out.put 2 rfl 6 (.slice a3 e.sts.length cp3) _ rfl
  have KT := (Kt.set (HW.out.at 2 rfl) 6 (.slice a3 e.sts.length cp3))
  refine wabsW (fun V => SB w V [(w.heap.size, (edC e (.slice ao e.out.length co) (.slice ai e.inn.length ci) (.slice aS e.sts.length cS) (.slice aw e.wait.length cw)), 44), (w.heap.size + 1, zEdC, 30), (w.heap.size + 1 + 1, #[.bool e.ans, .slice a1 e.out.length cp1, .int .i64 e.outM, .slice a2 e.inn.length cp2, .int .i64 e.innM, .string e.came, .slice a3 e.sts.length cp3, .int .i64 0, .int .i64 0, .slice none 0 0, .bool false], 30)] ∧ FO V w.heap.size (.slice a1 e.out.length cp1) e.out ∧ FO V w.heap.size (.slice a2 e.inn.length cp2) e.inn ∧ So V w.heap.size e.sts (.slice a3 e.sts.length cp3) hg) ⟨T0, (own_kt (own_belowT HoV5.out hb) (by decide) KT), (own_kt (own_belowT HiV5.out hb) (by decide) KT), (hso.base HSV5.out.bel.size).kt KT⟩ ?_
  clear HSV5 HoV5 HiV5 HW T0 KT c6 d6 f6 hb hgl hgd hgo hgn hso HND
  rintro V6 ⟨S_, oo, oi, os⟩
  have HSV6 : Hid _ := S_
  have HoV6 : Hid _ := oo
  have HiV6 : Hid _ := oi
  have HsV6 : Hid _ := os
  clear S_ oo oi os
  have c7 := cellE (HSV6.out.at 0 rfl) 7 (.int .i64 e.fl.s) rfl
  have c8 := cellE (HSV6.out.at 0 rfl) 8 (.int .i64 e.fl.r) rfl
  go_upto_region 8 with (go_at_call 43; refine (ttf _).mono ?_; clear ttf; rintro r W ⟨rfl, hb⟩; have d7 := cellE ((HSV6.out.below hb).at 2 rfl) 7 (.int .i64 0) rfl; have f7 := frz 7 ((HSV6.out.below hb).at 2 rfl); have d8 := cellE ((HSV6.out.below hb).at 2 rfl) 8 (.int .i64 0) rfl; have f8 := frz 8 ((HSV6.out.below hb).at 2 rfl))
  have HW : Hid _ := HSV6.out.below hb
  have T0 := HW.out.put 2 rfl 7 (.int .i64 e.fl.s) _ rfl
  have T1 := T0.put 2 rfl 8 (.int .i64 e.fl.r) _ rfl
  have KT := ((Kt.set (HW.out.at 2 rfl) 7 (.int .i64 e.fl.s)).trans (Kt.set (T0.at 2 rfl) 8 (.int .i64 e.fl.r)))
  refine wabsW (fun V => SB w V [(w.heap.size, (edC e (.slice ao e.out.length co) (.slice ai e.inn.length ci) (.slice aS e.sts.length cS) (.slice aw e.wait.length cw)), 44), (w.heap.size + 1, zEdC, 30), (w.heap.size + 1 + 1, #[.bool e.ans, .slice a1 e.out.length cp1, .int .i64 e.outM, .slice a2 e.inn.length cp2, .int .i64 e.innM, .string e.came, .slice a3 e.sts.length cp3, .int .i64 e.fl.s, .int .i64 e.fl.r, .slice none 0 0, .bool false], 30)] ∧ FO V w.heap.size (.slice a1 e.out.length cp1) e.out ∧ FO V w.heap.size (.slice a2 e.inn.length cp2) e.inn ∧ So V w.heap.size e.sts (.slice a3 e.sts.length cp3) hg) ⟨T1, (own_kt (own_belowT HoV6.out hb) (by decide) KT), (own_kt (own_belowT HiV6.out hb) (by decide) KT), (So.kt (So.below HsV6.out hb) KT)⟩ ?_
  clear HSV6 HoV6 HiV6 HsV6 HW T0 T1 KT c7 c8 d7 d8 f7 f8 hb
  rintro V7 ⟨S_, oo, oi, os⟩
  have HSV7 : Hid _ := S_
  have HoV7 : Hid _ := oo
  have HiV7 : Hid _ := oi
  have HsV7 : Hid _ := os
  clear S_ oo oi os
  have c9 := cellE (HSV7.out.at 0 rfl) 9 (.slice aw e.wait.length cw) rfl
  go_upto_region 9 with (go_at_call 44; refine (ttw _ (HFW.out.below HSV7.out.bel)).mono ?_; clear ttw; rintro r W ⟨v4, rfl, ho4, hb⟩; obtain ⟨a4, cp4, rfl⟩ := own_formT ho4; have d9 := cellE ((HSV7.out.below hb).at 2 rfl) 9 (.slice none 0 0) rfl; have f9 := frz 9 ((HSV7.out.below hb).at 2 rfl))
  have HW : Hid _ := HSV7.out.below hb
  have T0 := HW.out.put 2 rfl 9 (.slice a4 e.wait.length cp4) _ rfl
  have KT := (Kt.set (HW.out.at 2 rfl) 9 (.slice a4 e.wait.length cp4))
  refine wabsW (fun V => SB w V [(w.heap.size, (edC e (.slice ao e.out.length co) (.slice ai e.inn.length ci) (.slice aS e.sts.length cS) (.slice aw e.wait.length cw)), 44), (w.heap.size + 1, zEdC, 30), (w.heap.size + 1 + 1, #[.bool e.ans, .slice a1 e.out.length cp1, .int .i64 e.outM, .slice a2 e.inn.length cp2, .int .i64 e.innM, .string e.came, .slice a3 e.sts.length cp3, .int .i64 e.fl.s, .int .i64 e.fl.r, .slice a4 e.wait.length cp4, .bool false], 30)] ∧ FO V w.heap.size (.slice a1 e.out.length cp1) e.out ∧ FO V w.heap.size (.slice a2 e.inn.length cp2) e.inn ∧ So V w.heap.size e.sts (.slice a3 e.sts.length cp3) hg ∧ V.ownsRow w.heap.size 73 4 (.slice a4 e.wait.length cp4) e.wait.length (cellsFr e.wait)) ⟨T0, (own_kt (own_belowT HoV7.out hb) (by decide) KT), (own_kt (own_belowT HiV7.out hb) (by decide) KT), (So.kt (So.below HsV7.out hb) KT), own_kt (own_baseT ho4 HSV7.out.bel.size) (by decide) KT⟩ ?_
  clear HSV7 HoV7 HiV7 HsV7 HW T0 KT c9 d9 f9 hb ho4
  rintro V8 ⟨S_, oo, oi, os, oq⟩
  have HSV8 : Hid _ := S_
  have HoV8 : Hid _ := oo
  have HiV8 : Hid _ := oi
  have HsV8 : Hid _ := os
  have HqV8 : Hid _ := oq
  clear S_ oo oi os oq
  have c10 := cellE (HSV8.out.at 0 rfl) 10 (.bool e.bad) rfl
  have d10 := cellE (HSV8.out.at 2 rfl) 10 (.bool false) rfl
  have f10 := frz 10 (HSV8.out.at 2 rfl)
  go_upto_region 10 with fail
  have T0 := HSV8.out.put 2 rfl 10 (.bool e.bad) _ rfl
  have KT := (Kt.set (HSV8.out.at 2 rfl) 10 (.bool e.bad))
  refine wabsW (fun V => SB w V [(w.heap.size, (edC e (.slice ao e.out.length co) (.slice ai e.inn.length ci) (.slice aS e.sts.length cS) (.slice aw e.wait.length cw)), 44), (w.heap.size + 1, zEdC, 30), (w.heap.size + 1 + 1, #[.bool e.ans, .slice a1 e.out.length cp1, .int .i64 e.outM, .slice a2 e.inn.length cp2, .int .i64 e.innM, .string e.came, .slice a3 e.sts.length cp3, .int .i64 e.fl.s, .int .i64 e.fl.r, .slice a4 e.wait.length cp4, .bool e.bad], 30)] ∧ FO V w.heap.size (.slice a1 e.out.length cp1) e.out ∧ FO V w.heap.size (.slice a2 e.inn.length cp2) e.inn ∧ So V w.heap.size e.sts (.slice a3 e.sts.length cp3) hg ∧ V.ownsRow w.heap.size 73 4 (.slice a4 e.wait.length cp4) e.wait.length (cellsFr e.wait)) ⟨T0, (own_kt HoV8.out (by decide) KT), (own_kt HiV8.out (by decide) KT), (So.kt HsV8.out KT), (own_kt HqV8.out (by decide) KT)⟩ ?_
  clear HSV8 HoV8 HiV8 HsV8 HqV8 T0 KT c10 d10 f10
  rintro V9 ⟨S_, oo, oi, os, oq⟩
  have HSV9 : Hid _ := S_
  have HoV9 : Hid _ := oo
  have HiV9 : Hid _ := oi
  have HsV9 : Hid _ := os
  have HqV9 : Hid _ := oq
  clear S_ oo oi os oq
  have HB9 : Hid _ := HSV9.out.at 2 rfl
  have HR9 : Hid _ := HSV9.out.at 1 rfl
  go_wp2_with (first | (refine wpList_load_row rfl 30 _ rfl (w.heap.size + 1 + 1) rfl 30 (edC e (.slice a1 e.out.length cp1) (.slice a2 e.inn.length cp2) (.slice a3 e.sts.length cp3) (.slice a4 e.wait.length cp4)) (0, 0) _ HB9.out Try.underlying30 rfl infoEd ?_) | (refine wpList_store_row rfl 30 _ _ rfl (w.heap.size + 1) (edC e (.slice a1 e.out.length cp1) (.slice a2 e.inn.length cp2) (.slice a3 e.sts.length cp3) (.slice a4 e.wait.length cp4)) rfl rfl 30 _ HR9.out infoEd rfl (by simp [edC, Value.oneCell']) ?_))
  have KT := Kt.row HR9.out (edC e (.slice a1 e.out.length cp1) (.slice a2 e.inn.length cp2) (.slice a3 e.sts.length cp3) (.slice a4 e.wait.length cp4))
  refine bodyPost_ret (results_cW rfl _ _ (w.heap.size + 1) _ rfl (load_ed (setRow_heap _ _ _ _ _ _ HR9.out) rfl)) rfl ⟨_, _, _, _, hg, rfl, ?_, (HSV9.out.row 1 rfl _).bel⟩
  have hso := HsV9.out.kt KT
  refine ⟨own_kt HoV9.out (by decide) KT, own_kt HiV9.out (by decide) KT, hso.lh, hso.hd, hso.row, ?_, HN2.out⟩
  exact own_kt HqV9.out (by decide) KT
end Go.Proofs.Ytdnajdobmlgmiaa

namespace Go.Proofs.Ytdnajdobmlgmiaa
open Go.RowKit
set_option linter.unusedVariables false

set_option maxRecDepth 100000 in
theorem open_stream {H : Type} {enc : TypeId × Value → H} {W : World} {base : Nat} {sp : Nat → Bool} {held : Bool} {fuel : Nat} {cs : List Value} {x : DataW H × List MemPlace} (h : DataW.trod enc Try.prog W base sp held fuel 89 cs = some x) :
    ∃ (s : Sm) (ah : Option Addr) (nh ch : Nat) (ag : Option Addr) (ng cg : Nat), cs = smC s (.slice ah nh ch) (.slice ag ng cg) ∧ FsA W ah nh ch s.head ∧ FsA W ag ng cg s.got ∧ s.say.size ≤ maxLen ∧ s.text.size ≤ maxLen := by
  obtain ⟨xs, n, _, _, hlen, hxl, hf⟩ := DataW.trod_struct Try.underlying89 h
  have hc : Try.prog.cellsOf 89 = 12 := by kernel_rfl
  have hcs : Try.prog.cellsOf 9 = 1 := by kernel_rfl
  have hcb : Try.prog.cellsOf 4 = 1 := by kernel_rfl
  have hci : Try.prog.cellsOf 3 = 1 := by kernel_rfl
  have hcl : Try.prog.cellsOf 37 = 1 := by kernel_rfl
  have hcw : Try.prog.cellsOf 41 = 2 := by kernel_rfl
  rw [hc] at hlen
  match cs, hlen, xs, hxl with
  | [b0, b1, b2, b3, b4, b5, b6, b7, b8, b9, b10, b11], _, [y0, y1, y2, y3, y4, y5, y6, y7, y8, y9, y10], _ =>
    have h0 := hf 0 _ rfl
    have h1 := hf 1 _ rfl
    have h2 := hf 2 _ rfl
    have h3 := hf 3 _ rfl
    have h4 := hf 4 _ rfl
    have h5 := hf 5 _ rfl
    have h6 := hf 6 _ rfl
    have h7 := hf 7 _ rfl
    have h8 := hf 8 _ rfl
    have h9 := hf 9 _ rfl
    have h10 := hf 10 _ rfl
    clear hf h
    simp [hcs, hcb, hci, hcl, hcw] at h0 h1 h2 h3 h4 h5 h6 h7 h8 h9 h10
    obtain ⟨z0, e0, _⟩ := DataW.trod_int Try.underlying3 h0
    obtain ⟨z1, e1, _⟩ := DataW.trod_int Try.underlying3 h1
    obtain ⟨a2, n2, c2, e2, f2, A2⟩ := open_fields h2
    obtain ⟨z3, e3, _, g3⟩ := DataW.trod_string Try.underlying9 h3
    obtain ⟨z4, e4, _⟩ := DataW.trod_bool Try.underlying4 h4
    obtain ⟨z5, e5, _⟩ := DataW.trod_bool Try.underlying4 h5
    obtain ⟨z6, e6, _⟩ := DataW.trod_int Try.underlying3 h6
    obtain ⟨a7, n7, c7, e7, f7, A7⟩ := open_fields h7
    obtain ⟨z8, e8, _, g8⟩ := DataW.trod_string Try.underlying9 h8
    obtain ⟨z9, e9, _⟩ := DataW.trod_bool Try.underlying4 h9
    obtain ⟨z10, e10⟩ := open_flow h10
    simp at e0 e1 e2 e3 e4 e5 e6 e7 e8 e9 e10
    obtain ⟨e10, e11⟩ := e10
    subst e0 e1 e2 e3 e4 e5 e6 e7 e8 e9 e10 e11
    exact ⟨⟨z0, z1, f2, z3, z4, z5, z6, f7, z8, z9, z10⟩, a2, n2, c2, a7, n7, c7, rfl, A2, A7, g3, g8⟩
theorem range_app {W : World} {g o : Nat} {xs ys : List Value} (h : W.rangeAt g o xs) (k : W.rangeAt g (o + xs.length) ys) : W.rangeAt g o (xs ++ ys) := by
  intro j v hv
  by_cases hj : j < xs.length
  · rw [List.getElem?_append_left hj] at hv
    exact h j v hv
  · rw [List.getElem?_append_right (by omega)] at hv
    have := k (j - xs.length) v hv
    rwa [show o + xs.length + (j - xs.length) = o + j by omega] at this
theorem rows_sm {W : World} {g o len : Nat} (h : ∀ i, i < len → ∃ (s : Sm) (ah : Option Addr) (nh ch : Nat) (ag : Option Addr) (ng cg : Nat), W.rangeAt g (o + i * 12) (smC s (.slice ah nh ch) (.slice ag ng cg)) ∧ FsA W ah nh ch s.head ∧ FsA W ag ng cg s.got ∧ s.say.size ≤ maxLen ∧ s.text.size ≤ maxLen) (k : Nat) (hk : k ≤ len) :
    ∃ (l : List Sm) (xs : List Value), l.length = k ∧ W.rangeAt g o xs ∧ SmL (FsA W) l xs ∧ ∀ s ∈ l, s.say.size ≤ maxLen ∧ s.text.size ≤ maxLen := by
  induction k with
  | zero => exact ⟨[], [], rfl, (by intro j v hv; simp at hv), rfl, (by intro s hs; cases hs)⟩
  | succ k ih =>
    obtain ⟨l, xs, h1, h2, h3, h4⟩ := ih (by omega)
    obtain ⟨s, ah, nh, ch, ag, ng, cg, hr, fh, fg, g0, g1⟩ := h k (by omega)
    refine ⟨l ++ [s], xs ++ smC s (.slice ah nh ch) (.slice ag ng cg), by simp [h1], ?_, h3.append (SmL.one fh fg), ?_⟩
    · refine range_app h2 ?_
      rw [h3.length, h1]
      exact hr
    · intro x hx
      rcases List.mem_append.1 hx with hx | hx
      · exact h4 x hx
      · simp at hx
        subst hx
        exact ⟨g0, g1⟩
theorem rows_fr {W : World} {g o len : Nat} (h : ∀ i, i < len → ∃ f : Fr, W.rangeAt g (o + i * 4) (frV4 f) ∧ f.b.size ≤ maxLen) (k : Nat) (hk : k ≤ len) :
    ∃ l : List Fr, l.length = k ∧ W.rangeAt g o (cellsFr l) ∧ ∀ f ∈ l, f.b.size ≤ maxLen := by
  induction k with
  | zero => exact ⟨[], rfl, (by intro j v hv; simp [cellsFr] at hv), (by intro s hs; cases hs)⟩
  | succ k ih =>
    obtain ⟨l, h1, h2, h4⟩ := ih (by omega)
    obtain ⟨f, hr, g0⟩ := h k (by omega)
    refine ⟨l ++ [f], by simp [h1], ?_, ?_⟩
    · rw [cellsFr_append]
      refine range_app h2 ?_
      rw [cellsFr_length, h1]
      exact hr
    · intro x hx
      rcases List.mem_append.1 hx with hx | hx
      · exact h4 x hx
      · simp at hx
        subst hx
        exact g0
theorem range_of_cells {W : World} {base : Nat} {a : Addr} {n : Nat} {cs : List Value} (h : W.cells? base a n = some cs) (hn : 0 < n) : a.spot = none ∧ W.rangeAt a.block a.off cs := by
  obtain ⟨_, hlen, hce⟩ := World.cells?_some h
  have hsp : a.spot = none := by
    have e := hce 0 hn
    rw [List.getElem?_eq_getElem (by omega)] at e
    have := World.cell?_spot e
    simpa [Addr.add] using this
  obtain ⟨g, o, q⟩ := a
  simp only at hsp
  subst hsp
  refine ⟨rfl, ?_⟩
  intro j v hv
  have hj := (List.getElem?_eq_some_iff.1 hv).1
  have e := hce j (by omega)
  rw [Addr.add_lit, hv] at e
  exact e
set_option maxRecDepth 100000 in
theorem open_streams {H : Type} {enc : TypeId × Value → H} {W : World} {base : Nat} {sp : Nat → Bool} {held : Bool} {fuel : Nat} {cs : List Value} {x : DataW H × List MemPlace} (h : DataW.trod enc Try.prog W base sp held fuel 40 cs = some x) :
    ∃ a n cap, cs = [.slice a n cap] ∧ ∃ l, SsA W a n cap l := by
  rcases Deep.open_slice Try.underlying40 h with ⟨rfl, _⟩ | ⟨a, len, cap, m, n, D, Pl, rfl, hb, hl, hm, hmm, _, hx⟩
  · exact ⟨none, 0, 0, rfl, [], rfl, by decide, (fun h => absurd h (by decide)), (fun f hf => by cases hf)⟩
  · have hc3 : Try.prog.cellsOf 89 = 12 := by kernel_rfl
    have hlm : len ≤ m := by rw [hmm]; split <;> omega
    refine ⟨some a, len, cap, rfl, ?_⟩
    by_cases h0 : len = 0
    · subst h0
      exact ⟨[], rfl, by decide, (fun h => absurd h (by decide)), (fun f hf => by cases hf)⟩
    · have hcell : ∀ i, i < len → ∃ (s : Sm) (ah : Option Addr) (nh ch : Nat) (ag : Option Addr) (ng cg : Nat), (a.add (i * 12)).spot = none ∧ W.rangeAt (a.add (i * 12)).block (a.add (i * 12)).off (smC s (.slice ah nh ch) (.slice ag ng cg)) ∧ FsA W ah nh ch s.head ∧ FsA W ag ng cg s.got ∧ s.say.size ≤ maxLen ∧ s.text.size ≤ maxLen := by
        intro i hi
        obtain ⟨cs', g1, g2⟩ := hx i (by omega)
        rw [hc3] at g1
        obtain ⟨k1, k2⟩ := range_of_cells g1 (by omega)
        obtain ⟨s, ah, nh, ch, ag, ng, cg, rfl, fh, fg, s1, s2⟩ := open_stream g2
        exact ⟨s, ah, nh, ch, ag, ng, cg, k1, k2, fh, fg, s1, s2⟩
      have hsp : a.spot = none := by
        obtain ⟨s, ah, nh, ch, ag, ng, cg, k1, _⟩ := hcell 0 (by omega)
        simpa [Addr.add] using k1
      obtain ⟨g, o, q⟩ := a
      simp only at hsp
      subst hsp
      obtain ⟨l, xs, f1, f2, f3, f4⟩ := rows_sm (W := W) (g := g) (o := o) (len := len) (by
        intro i hi
        obtain ⟨s, ah, nh, ch, ag, ng, cg, _, k2, fh, fg, s1, s2⟩ := hcell i hi
        rw [Addr.add_lit] at k2
        exact ⟨s, ah, nh, ch, ag, ng, cg, k2, fh, fg, s1, s2⟩) len (Nat.le_refl _)
      exact ⟨l, f1, by omega, fun _ => ⟨g, o, xs, rfl, f2, f3⟩, f4⟩
set_option maxRecDepth 100000 in
theorem open_frames {H : Type} {enc : TypeId × Value → H} {W : World} {base : Nat} {sp : Nat → Bool} {held : Bool} {fuel : Nat} {cs : List Value} {x : DataW H × List MemPlace} (h : DataW.trod enc Try.prog W base sp held fuel 42 cs = some x) :
    ∃ a n cap, cs = [.slice a n cap] ∧ ∃ l, FrA W a n cap l := by
  rcases Deep.open_slice Try.underlying42 h with ⟨rfl, _⟩ | ⟨a, len, cap, m, n, D, Pl, rfl, hb, hl, hm, hmm, _, hx⟩
  · exact ⟨none, 0, 0, rfl, [], rfl, by decide, (fun h => absurd h (by decide)), (fun f hf => by cases hf)⟩
  · have hc3 : Try.prog.cellsOf 91 = 4 := by kernel_rfl
    have hlm : len ≤ m := by rw [hmm]; split <;> omega
    refine ⟨some a, len, cap, rfl, ?_⟩
    by_cases h0 : len = 0
    · subst h0
      exact ⟨[], rfl, by decide, (fun h => absurd h (by decide)), (fun f hf => by cases hf)⟩
    · have hcell : ∀ i, i < len → ∃ f : Fr, (a.add (i * 4)).spot = none ∧ W.rangeAt (a.add (i * 4)).block (a.add (i * 4)).off (frV4 f) ∧ f.b.size ≤ maxLen := by
        intro i hi
        obtain ⟨cs', g1, g2⟩ := hx i (by omega)
        rw [hc3] at g1
        obtain ⟨k1, k2⟩ := range_of_cells g1 (by omega)
        obtain ⟨f, rfl, s1⟩ := open_frame g2
        exact ⟨f, k1, k2, s1⟩
      have hsp : a.spot = none := by
        obtain ⟨f, k1, _⟩ := hcell 0 (by omega)
        simpa [Addr.add] using k1
      obtain ⟨g, o, q⟩ := a
      simp only at hsp
      subst hsp
      obtain ⟨l, f1, f2, f4⟩ := rows_fr (W := W) (g := g) (o := o) (len := len) (by
        intro i hi
        obtain ⟨f, _, k2, s1⟩ := hcell i hi
        rw [Addr.add_lit] at k2
        exact ⟨f, k2, s1⟩) len (Nat.le_refl _)
      exact ⟨l, f1, by omega, fun _ => ⟨g, o, rfl, f2⟩, f4⟩
set_option maxRecDepth 100000 in
theorem open_end {H : Type} {enc : TypeId × Value → H} {W : World} {base : Nat} {sp : Nat → Bool} {held : Bool} {fuel : Nat} {cs : List Value} {x : DataW H × List MemPlace} (h : DataW.trod enc Try.prog W base sp held fuel 44 cs = some x) :
    ∃ (e : Ed) (o i s q : Value), cs = [.bool e.ans, o, .int .i64 e.outM, i, .int .i64 e.innM, .string e.came, s, .int .i64 e.fl.s, .int .i64 e.fl.r, q, .bool e.bad] ∧ EdA W e o i s q := by
  obtain ⟨xs, n, _, _, hlen, hxl, hf⟩ := DataW.trod_struct Try.underlying44 h
  have hc : Try.prog.cellsOf 44 = 11 := by kernel_rfl
  have hcs : Try.prog.cellsOf 9 = 1 := by kernel_rfl
  have hcb : Try.prog.cellsOf 4 = 1 := by kernel_rfl
  have hct : Try.prog.cellsOf 39 = 2 := by kernel_rfl
  have hcl : Try.prog.cellsOf 40 = 1 := by kernel_rfl
  have hcq : Try.prog.cellsOf 42 = 1 := by kernel_rfl
  have hcw : Try.prog.cellsOf 41 = 2 := by kernel_rfl
  rw [hc] at hlen
  match cs, hlen, xs, hxl with
  | [b0, b1, b2, b3, b4, b5, b6, b7, b8, b9, b10], _, [y0, y1, y2, y3, y4, y5, y6, y7], _ =>
    have h0 := hf 0 _ rfl
    have h1 := hf 1 _ rfl
    have h2 := hf 2 _ rfl
    have h3 := hf 3 _ rfl
    have h4 := hf 4 _ rfl
    have h5 := hf 5 _ rfl
    have h6 := hf 6 _ rfl
    have h7 := hf 7 _ rfl
    clear hf h
    simp [hcs, hcb, hct, hcl, hcq, hcw] at h0 h1 h2 h3 h4 h5 h6 h7
    obtain ⟨z0, e0, _⟩ := DataW.trod_bool Try.underlying4 h0
    obtain ⟨a1, n1, c1, m1, e1, f1, A1⟩ := open_table h1
    obtain ⟨a2, n2, c2, m2, e2, f2, A2⟩ := open_table h2
    obtain ⟨z3, e3, _, g3⟩ := DataW.trod_string Try.underlying9 h3
    obtain ⟨a4, n4, c4, e4, l4, A4⟩ := open_streams h4
    obtain ⟨z5, e5⟩ := open_flow h5
    obtain ⟨a6, n6, c6, e6, l6, A6⟩ := open_frames h6
    obtain ⟨z7, e7, _⟩ := DataW.trod_bool Try.underlying4 h7
    simp at e0 e1 e2 e3 e4 e5 e6 e7
    obtain ⟨e1, e1'⟩ := e1
    obtain ⟨e2, e2'⟩ := e2
    obtain ⟨e5, e5'⟩ := e5
    subst e0 e1 e1' e2 e2' e3 e4 e5 e5' e6 e7
    exact ⟨⟨z0, f1, m1, f2, m2, z3, l4, z5, l6, z7⟩, _, _, _, _, rfl, ⟨_, _, _, rfl, A1⟩, ⟨_, _, _, rfl, A2⟩, ⟨_, _, _, rfl, A4⟩, ⟨_, _, _, rfl, A6⟩, g3⟩
end Go.Proofs.Ytdnajdobmlgmiaa
