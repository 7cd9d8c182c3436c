import Derived.Test.YtdnajdobmlgmiaaEpW
namespace Go.Proofs.Ytdnajdobmlgmiaa
open Go.RowKit
set_option linter.unusedVariables false

/-- A world that was handed in. -/
structure WdA (w : World) (c a : Ed) (x y : Q4) (up down : ByteArray) : Prop where
  c : EdA w c x.o x.i x.s x.q
  a : EdA w a y.o y.i y.s y.q
  up : up.size ≤ maxLen
  down : down.size ≤ maxLen
theorem WdA.below {w w' : World} {c a : Ed} {x y : Q4} {up down : ByteArray} (h : WdA w c a x y up down) (hb : Below w.heap.size w w') : WdA w' c a x y up down := ⟨h.c.below hb, h.a.below hb, h.up, h.down⟩
set_option maxRecDepth 100000 in
theorem open_world {H : Type} {enc : TypeId × Value → H} {W : World} {base : Nat} {sp : Nat → Bool} {held : Bool} {fuel : Nat} {cs : List Value} {x : DataW H × List MemPlace} (h : DataW.trod enc Try.prog W base sp held fuel 46 cs = some x) :
    ∃ (c a : Ed) (x y : Q4) (up down : ByteArray), cs = wdL c a x y up down ∧ WdA W c a x y up down := by
  obtain ⟨xs, n, _, _, hlen, hxl, hf⟩ := DataW.trod_struct Try.underlying46 h
  have hc : Try.prog.cellsOf 46 = 24 := by kernel_rfl
  have hce : Try.prog.cellsOf 44 = 11 := by kernel_rfl
  have hcs : Try.prog.cellsOf 9 = 1 := by kernel_rfl
  rw [hc] at hlen
  match xs, hxl with
  | [y0, y1, y2, y3], _ =>
    have h0 : DataW.trod enc Try.prog W base sp held n 44 ((cs.drop 0).take (Try.prog.cellsOf 44)) = some y0 := hf 0 _ rfl
    have h1 : DataW.trod enc Try.prog W base sp held n 44 ((cs.drop 11).take (Try.prog.cellsOf 44)) = some y1 := hf 1 _ rfl
    have h2 : DataW.trod enc Try.prog W base sp held n 9 ((cs.drop 22).take (Try.prog.cellsOf 9)) = some y2 := hf 2 _ rfl
    have h3 : DataW.trod enc Try.prog W base sp held n 9 ((cs.drop 23).take (Try.prog.cellsOf 9)) = some y3 := hf 3 _ rfl
    clear hf h
    rw [hce] at h0 h1
    rw [hcs] at h2 h3
    obtain ⟨c, o1, i1, s1, q1, e0, A0⟩ := open_end h0
    obtain ⟨a, o2, i2, s2, q2, e1, A1⟩ := open_end h1
    obtain ⟨u, e2, _, g2⟩ := DataW.trod_string Try.underlying9 h2
    obtain ⟨d, e3, _, g3⟩ := DataW.trod_string Try.underlying9 h3
    refine ⟨c, a, ⟨o1, i1, s1, q1⟩, ⟨o2, i2, s2, q2⟩, u, d, ?_, A0, A1, g2, g3⟩
    have hsplit : cs = (cs.drop 0).take 11 ++ ((cs.drop 11).take 11 ++ ((cs.drop 22).take 1 ++ (cs.drop 23).take 1)) := by
      rw [List.drop_zero]
      have e4 : (cs.drop 23).take 1 = cs.drop 23 := List.take_of_length_le (by rw [List.length_drop]; omega)
      have e5 : (cs.drop 22).take 1 ++ cs.drop 23 = cs.drop 22 := by
        have := List.take_append_drop 1 (cs.drop 22)
        rwa [List.drop_drop] at this
      have e6 : (cs.drop 11).take 11 ++ cs.drop 22 = cs.drop 11 := by
        have := List.take_append_drop 11 (cs.drop 11)
        rwa [List.drop_drop] at this
      rw [e4, e5, e6, List.take_append_drop]
    rw [hsplit, e0, e1, e2, e3]
    rfl
/-- All blocks but those of this type are as they were. -/
def KtT (t0 : TypeId) (w w' : World) : Prop := ∀ (b : Nat) (cs : Array Value) (t : TypeId) (f : Nat × Nat), w.heap[b]? = some (.cells cs t f) → t ≠ t0 → w'.heap[b]? = some (.cells cs t f)
theorem KtT.kp {w w' : World} {b : Nat} {cs : Array Value} {t0 : TypeId} (h : w.heap[b]? = some (.cells cs t0 (0, 0))) (hk : Kp (fun g => g = b) w w') : KtT t0 w w' := fun g ds t f hg ht => hk.blk hg (fun e => typ_ne hg h ht e)
theorem own_ktT {w w' : World} {t0 : TypeId} {base size n : Nat} {t : TypeId} {v : Value} {xs : List Value} (h : w.ownsRow base t size v n xs) (ht : t ≠ t0) (k : KtT t0 w w') : w'.ownsRow base t size v n xs := by
  refine ⟨h.1, ?_⟩
  rcases h.2 with hn | ⟨g, cap, cur, rfl, hb, hgg, rest⟩
  · exact .inl hn
  · exact .inr ⟨g, cap, cur, rfl, hb, k g cur t (0, 0) hgg ht, rest⟩
theorem Eo.ktW {w w' : World} {B : Nat} {e : Ed} {o i s q : Value} {hg : List (Value × Value)} (h : Eo w B e o i s q hg) (k : KtT 32 w w') : Eo w' B e o i s q hg :=
  ⟨own_ktT h.out (by decide) k, own_ktT h.inn (by decide) k, h.lh, fun j t x h1 h2 => ⟨own_ktT (h.hd j t x h1 h2).1 (by decide) k, own_ktT (h.hd j t x h1 h2).2 (by decide) k⟩, own_ktT h.sts (by decide) k, own_ktT h.wait (by decide) k, h.df⟩
abbrev nilQ : Q4 := ⟨.slice none 0 0, .slice none 0 0, .slice none 0 0, .slice none 0 0⟩
abbrev zWdC : Array Value := #[.bool false, .slice none 0 0, .int .i64 0, .slice none 0 0, .int .i64 0, .string ⟨#[]⟩, .slice none 0 0, .int .i64 0, .int .i64 0, .slice none 0 0, .bool false, .bool false, .slice none 0 0, .int .i64 0, .slice none 0 0, .int .i64 0, .string ⟨#[]⟩, .slice none 0 0, .int .i64 0, .int .i64 0, .slice none 0 0, .bool false, .string ⟨#[]⟩, .string ⟨#[]⟩]
theorem zWd_eq : zWdC = wdC zEd zEd nilQ nilQ eB eB := rfl
theorem load_wd {w : World} {g : Nat} {c a : Ed} {x y : Q4} {up down : ByteArray} (hg : w.heap[g]? = some (.cells (wdC c a x y up down) 32 (0, 0))) : (loadVar 32 ⟨g, 0, none⟩).run Try.prog w = .ok (.agg (wdC c a x y up down)) w :=
  run_loadVar_row w g 32 32 _ (0, 0) _ hg Try.underlying32 rfl infoWd
theorem SB.cells {w V : World} {L : List (Nat × Array Value × TypeId)} (h : SB w V L) (k : Nat) {b : Nat} {cs : Array Value} {t : TypeId} (hk : L[k]? = some (b, cs, t)) (o : Nat) (vs : List Value) (ds : Array Value) (hl : o + vs.length ≤ cs.size) (hd : (putL cs.toList o vs).toArray = ds) : SB w (V.setCells b o vs) (L.set k (b, ds, t)) := by
  refine h.box k hk ds ?_ (Kp.setCells (X := fun g => g = b) b rfl vs o V)
  have := setCells_heap b t vs o V cs (h.at k hk) hl
  rw [hd] at this
  exact this
theorem there_blk {w : World} {g : Nat} {cs : Array Value} {t : TypeId} (h : w.heap[g]? = some (.cells cs t (0, 0))) {o m : Nat} (hl : o + m ≤ cs.size) : w.there g o m := by
  intro j hj
  have hx : ∃ u, cs[o + j]? = some u := ⟨_, Array.getElem?_eq_getElem (by omega)⟩
  obtain ⟨u, hu⟩ := hx
  exact ⟨by rw [cellE h (o + j) u hu]; rfl, frz (o + j) h⟩

set_option maxRecDepth 100000 in
set_option maxHeartbeats 20000000 in
theorem toWorld_any (c a : Ed) (x y : Q4) (up down : ByteArray) (w : World) (hA : WdA w c a x y up down) (hlc : EdLn c) (hla : EdLn a) :
    Calls Try.prog 12 #[.agg (wdC c a x y up down)] w fun r w' => ∃ (x1 y1 : Q4) (h1 h2 : List (Value × Value)), r = .returned (.agg (wdC c a x1 y1 up down)) ∧ Eo w' w.heap.size c x1.o x1.i x1.s x1.q h1 ∧ Eo w' w.heap.size a y1.o y1.i y1.s y1.q h2 ∧ Below w.heap.size w w' := by
  have S0 := (((SB.start w).alloc (wdC c a x y up down) 46).alloc zWdC 32).alloc zWdC 32
  simp only [World.size_alloc] at S0
  have HS0 : Hid _ := S0
  have HA : Hid _ := hA
  have t1 := fun W (h : Below w.heap.size w W) => toEnd_any c x.o x.i x.s x.q W (HA.out.c.below h) hlc
  have t2 := fun W (h : Below w.heap.size w W) => toEnd_any a y.o y.i y.s y.q W (HA.out.a.below h) hla
  clear S0 hA hlc hla
  go_enter Try.func12, Try.ntmps12
  go_upto_region 2 with fail
  refine wabsW (fun V => SB w V [(w.heap.size, wdC c a x y up down, 46), (w.heap.size + 1, zWdC, 32), (w.heap.size + 1 + 1, wdC zEd zEd nilQ nilQ eB eB, 32)]) HS0.out ?_
  clear HS0
  rintro V1 S1
  have HS1 : Hid _ := S1
  clear S1
  go_upto_region 3 with (first | (refine wpList_load_mid rfl 44 _ rfl w.heap.size 0 rfl (enL c x) _ (range_wd1 (HS1.out.at 0 rfl)) Try.underlying44 rfl infoEdW ?_) | (go_at_call 21; refine (t1 _ HS1.out.bel).mono ?_; clear t1; rintro r W1 ⟨o1, i1, s1, q1, h1, rfl, hE1, hb1⟩; obtain ⟨x1, hx1⟩ : ∃ x1 : Q4, x1 = ⟨o1, i1, s1, q1⟩ := ⟨_, rfl⟩; have HE1 : Hid (Eo W1 V1.heap.size c x1.o x1.i x1.s x1.q h1) := (by rw [hx1]; exact hE1); have HB1 : Hid _ := hb1; have HX1 : Hid _ := hx1; have HON1 : Hid _ := all_oneCell_toArray (edC_oneW (x := x1) HE1.out.read); have HTR1 : Hid (W1.there (w.heap.size + 1 + 1) 0 (enL c x1).toArray.size) := there_blk ((HS1.out.below HB1.out).at 2 rfl) (by show 0 + 11 ≤ 24; omega); clear hE1 hb1 hx1) | (refine wpList_store_mid rfl 30 _ _ rfl (w.heap.size + 1 + 1) 0 (enL c x1).toArray rfl (by rw [HX1.out]; rfl) HTR1.out infoEd HON1.out ?_; refine Hid.out ?_))
  refine hidI ?_
  go_upto_region 3 with fail
  have hsb := HS1.out.below HB1.out
  have T1 := hsb.cells 2 rfl 0 (enL c x1) (wdC c zEd x1 nilQ eB eB) (by show 0 + 11 ≤ 24; omega) rfl
  have K1 : KtT 32 W1 (W1.setCells (w.heap.size + 1 + 1) 0 (enL c x1)) := KtT.kp (hsb.at 2 rfl) (Kp.setCells (X := fun g => g = w.heap.size + 1 + 1) _ rfl _ _ _)
  refine wabsW (fun V => SB w V [(w.heap.size, wdC c a x y up down, 46), (w.heap.size + 1, zWdC, 32), (w.heap.size + 1 + 1, wdC c zEd x1 nilQ eB eB, 32)] ∧ Eo V w.heap.size c x1.o x1.i x1.s x1.q h1) ⟨T1, (HE1.out.base HS1.out.bel.size).ktW K1⟩ ?_
  clear HS1 HB1 HE1 HTR1 HON1 hsb T1 K1 HX1
  rintro V2 ⟨S2, E1⟩
  have HS2 : Hid _ := S2
  have HE1 : Hid _ := E1
  clear S2 E1
  go_upto_region 4 with (first | (refine wpList_load_mid rfl 44 _ rfl w.heap.size 11 rfl (enL a y) _ (range_wd2 (HS2.out.at 0 rfl)) Try.underlying44 rfl infoEdW ?_) | (go_at_call 21; refine (t2 _ HS2.out.bel).mono ?_; clear t2; rintro r W2 ⟨o2, i2, s2, q2, h2, rfl, hE2, hb2⟩; obtain ⟨y1, hy1⟩ : ∃ y1 : Q4, y1 = ⟨o2, i2, s2, q2⟩ := ⟨_, rfl⟩; have HE2 : Hid (Eo W2 V2.heap.size a y1.o y1.i y1.s y1.q h2) := (by rw [hy1]; exact hE2); have HB2 : Hid _ := hb2; have HY1 : Hid _ := hy1; have HON2 : Hid _ := all_oneCell_toArray (edC_oneW (x := y1) HE2.out.read); have HTR2 : Hid (W2.there (w.heap.size + 1 + 1) 11 (enL a y1).toArray.size) := there_blk ((HS2.out.below HB2.out).at 2 rfl) (by show 11 + 11 ≤ 24; omega); clear hE2 hb2 hy1) | (refine wpList_store_mid rfl 30 _ _ rfl (w.heap.size + 1 + 1) 11 (enL a y1).toArray rfl (by rw [HY1.out]; rfl) HTR2.out infoEd HON2.out ?_; refine Hid.out ?_))
  refine hidI ?_
  go_upto_region 4 with fail
  have hsb := HS2.out.below HB2.out
  have T1 := hsb.cells 2 rfl 11 (enL a y1) (wdC c a x1 y1 eB eB) (by show 11 + 11 ≤ 24; omega) rfl
  have K1 : KtT 32 W2 (W2.setCells (w.heap.size + 1 + 1) 11 (enL a y1)) := KtT.kp (hsb.at 2 rfl) (Kp.setCells (X := fun g => g = w.heap.size + 1 + 1) _ rfl _ _ _)
  refine wabsW (fun V => SB w V [(w.heap.size, wdC c a x y up down, 46), (w.heap.size + 1, zWdC, 32), (w.heap.size + 1 + 1, wdC c a x1 y1 eB eB, 32)] ∧ Eo V w.heap.size c x1.o x1.i x1.s x1.q h1 ∧ Eo V w.heap.size a y1.o y1.i y1.s y1.q h2) ⟨T1, (HE1.out.below HB2.out).ktW K1, (HE2.out.base HS2.out.bel.size).ktW K1⟩ ?_
  clear HS2 HB2 HE1 HE2 HTR2 HON2 hsb T1 K1 HY1
  rintro V3 ⟨S3, E1, E2⟩
  have HS3 : Hid _ := S3
  have HE1 : Hid _ := E1
  have HE2 : Hid _ := E2
  clear S3 E1 E2
  have c22 := cellE (HS3.out.at 0 rfl) 22 (.string up) rfl
  have c23 := cellE (HS3.out.at 0 rfl) 23 (.string down) rfl
  have d22 := cellE (HS3.out.at 2 rfl) 22 (.string eB) rfl
  have d23 := cellE (HS3.out.at 2 rfl) 23 (.string eB) rfl
  have f22 := frz 22 (HS3.out.at 2 rfl)
  have f23 := frz 23 (HS3.out.at 2 rfl)
  go_upto_region 6 with fail
  have T1 := HS3.out.put 2 rfl 22 (.string up) (wdC c a x1 y1 up eB) rfl
  have T2 := T1.put 2 rfl 23 (.string down) (wdC c a x1 y1 up down) rfl
  have K1 := KtT.kp (HS3.out.at 2 rfl) (Kp.setCell (X := fun g => g = w.heap.size + 1 + 1) ⟨w.heap.size + 1 + 1, 22, none⟩ (.string up) rfl)
  have K2 := KtT.kp (T1.at 2 rfl) (Kp.setCell (X := fun g => g = w.heap.size + 1 + 1) ⟨w.heap.size + 1 + 1, 23, none⟩ (.string down) rfl)
  refine wabsW (fun V => SB w V [(w.heap.size, wdC c a x y up down, 46), (w.heap.size + 1, zWdC, 32), (w.heap.size + 1 + 1, wdC c a x1 y1 up down, 32)] ∧ Eo V w.heap.size c x1.o x1.i x1.s x1.q h1 ∧ Eo V w.heap.size a y1.o y1.i y1.s y1.q h2) ⟨T2, (HE1.out.ktW K1).ktW K2, (HE2.out.ktW K1).ktW K2⟩ ?_
  clear HS3 HE1 HE2 T1 T2 K1 K2 c22 c23 d22 d23 f22 f23
  rintro V4 ⟨S4, E1, E2⟩
  have HS4 : Hid _ := S4
  have HE1 : Hid _ := E1
  have HE2 : Hid _ := E2
  clear S4 E1 E2
  have HB4 : Hid _ := HS4.out.at 2 rfl
  have HR4 : Hid _ := HS4.out.at 1 rfl
  have HONE : Hid _ := wdC_one (up := up) (down := down) (x := x1) (y := y1) HE1.out.read HE2.out.read
  go_wp2_with (first | (refine wpList_load_row rfl 32 _ rfl (w.heap.size + 1 + 1) rfl 32 (wdC c a x1 y1 up down) (0, 0) _ HB4.out Try.underlying32 rfl infoWd ?_) | (refine wpList_store_row rfl 32 _ _ rfl (w.heap.size + 1) (wdC c a x1 y1 up down) rfl rfl 32 _ HR4.out infoWd rfl HONE.out ?_))
  have K1 := KtT.kp HR4.out (Kp.grown (X := fun g => g = w.heap.size + 1) (grown_setRowT V4 (w.heap.size + 1) (wdC c a x1 y1 up down)) (fun g e => by injection e with e; exact e.symm))
  exact bodyPost_ret (results_cW rfl _ _ (w.heap.size + 1) _ rfl (load_wd (setRow_heap _ _ _ _ _ _ HR4.out))) rfl ⟨x1, y1, h1, h2, rfl, HE1.out.ktW K1, HE2.out.ktW K1, (HS4.out.row 1 rfl _).bel⟩
end Go.Proofs.Ytdnajdobmlgmiaa
