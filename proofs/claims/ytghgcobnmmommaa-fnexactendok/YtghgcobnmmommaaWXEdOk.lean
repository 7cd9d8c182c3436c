import Derived.Test.YtghgcobnmmommaaEnE2
import Derived.Test.YtghgcobnmmommaaEpD
import Derived.Test.YtghgcobnmmommaaEpE
import Derived.Test.YtghgcobnmmommaaCC
namespace Go.Proofs.Ytghgcobnmmommaa
open Go.RowKit
set_option linter.unusedVariables false

theorem infoEdL : (Try.prog.info? 48).map (·.size) = some 11 := by kernel_rfl
def edL (e : Ed) (o i s q : Value) : List Value := [.bool e.ans, o, .int .i64 e.outM, i, .int .i64 e.innM, .string e.came, s, .int .i64 e.fl.s, .int .i64 e.fl.r, q, .bool e.bad]
theorem range_of_blk {w : World} {g : Nat} {cs : Array Value} {t : TypeId} (h : w.heap[g]? = some (.cells cs t (0, 0))) : w.rangeAt g 0 cs.toList := fun j v hv => by
  rw [Nat.zero_add]
  exact cellE h j v (by simpa using hv)
theorem edC_one {w : World} {e : Ed} {o i s q : Value} (h : EdV w e o i s q) : (edC e o i s q).all (·.oneCell') = true := by
  obtain ⟨⟨a1, n1, c1, rfl, _⟩, ⟨a2, n2, c2, rfl, _⟩, ⟨xs, ⟨a3, c3, rfl, _⟩, _⟩, ⟨a4, c4, rfl, _⟩⟩ := h
  simp [edC, Value.oneCell']
set_option maxRecDepth 100000 in
set_option maxHeartbeats 20000000 in
theorem fnExactEndOk_walk (e : Ed) (o i s q : Value) (w : World) (hA : EdA w e o i s q) :
    Calls Try.prog 5 #[.agg (edC e o i s q)] w fun r w' => r = .returned (.bool true) ∧ Below w.heap.size w w' := by
  have HA : Hid (EdA w e o i s q) := hA
  have S0 := (SB.start w).alloc (edC e o i s q) 48
  have HS0 : Hid _ := S0
  have hsz := fun W (h : Below w.heap.size w W) => szEnd_any e o i s q 1048576 W (HA.out.below h) (by decide) (by decide)
  clear hA S0
  go_enter Try.func5, Try.ntmps5
  go_upto_region 1 with fail
  refine wabsW (fun V => SB w V [(w.heap.size, (edC e o i s q), 48)]) HS0.out ?_
  clear HS0
  rintro V1 S1
  have HS1 : Hid _ := S1
  clear S1
  go_upto_region 3 with (first | (refine wpList_load_row rfl 48 _ rfl w.heap.size rfl 48 (edC e o i s q) (0, 0) _ (HS1.out.at 0 rfl) Try.underlying48 rfl infoEdL ?_) | (go_at_call 16; refine (hsz _ HS1.out.bel).mono ?_; clear hsz; rintro r w1 ⟨z, rfl, hz, hb⟩))
  have HS2 : Hid _ := HS1.out.below hb
  clear HS1 hb
  rcases hz with rfl | ⟨z0, hbd⟩
  · go_wp2
    go_ret
    exact ⟨rfl, HS2.out.bel⟩
  have hd : decide (z < 0) = false := by rw [decide_eq_false_iff_not]; omega
  have HBD : Hid (EdBd e) := hbd
  clear hbd
  have tE := fun W (h : Below w.heap.size w W) => toEnd_any e o i s q W (HA.out.below h) (EdLn.of HBD.out)
  have tE2 := tE
  have tE3 := tE
  have pS := fun W (o i s q : Value) (h : EdV W e o i s q) => specEndOk e o i s q W h HBD.out
  have pI := fun W (o i s q : Value) (h : EdV W e o i s q) => implEndOk e o i s q W h HBD.out
  obtain ⟨R, hR⟩ : ∃ R, edOk e = R := ⟨_, rfl⟩
  rw [hR] at pS pI
  clear hR
  go_upto_region 6 with (first | (refine wpList_load_row rfl 48 _ rfl w.heap.size rfl 48 (edC e o i s q) (0, 0) _ (HS2.out.at 0 rfl) Try.underlying48 rfl infoEdL ?_) | (go_at_call 18; refine (tE _ HS2.out.bel).mono ?_; clear tE; rintro r w2 ⟨o1, i1, s1, q1, hg1, rfl, hEo, hb2⟩; have HE1 : Hid (EdV w2 e o1 i1 s1 q1) := hEo.read; have HB2 : Hid _ := hb2; clear hEo hb2) | (go_at_call 17; refine (pS _ _ _ _ _ HE1.out).mono ?_; clear pS; rintro r w3 ⟨rfl, hb3⟩))
  have HS3 : Hid _ := (HS2.out.below HB2.out).below hb3
  clear HS2 HB2 hb3 HE1
  go_upto_region 7 with (first | (refine wpList_load_row rfl 48 _ rfl w.heap.size rfl 48 (edC e o i s q) (0, 0) _ (HS3.out.at 0 rfl) Try.underlying48 rfl infoEdL ?_) | (go_at_call 18; refine (tE2 _ HS3.out.bel).mono ?_; clear tE2; rintro r w4 ⟨o2, i2, s2, q2, hg2, rfl, hEo, hb4⟩; have HE2 : Hid (EdV w4 e o2 i2 s2 q2) := hEo.read; have HB4 : Hid _ := hb4; clear hEo hb4) | (refine wpList_store_row rfl 32 _ _ rfl w4.heap.size (edC e o2 i2 s2 q2) rfl rfl 32 _ (heap_alloc_last _ _) infoEd rfl (edC_one HE2.out) ?_; rw [World.setRow_alloc_new]))
  have hS4 := HS3.out.below HB4.out
  have hS5 := hS4.alloc (edC e o2 i2 s2 q2) 32
  have hE5 : EdV (w4.alloc (.cells (edC e o2 i2 s2 q2) 32)) e o2 i2 s2 q2 := EdV.below HE2.out ((Below.refl _ _).alloc (Nat.le_refl _) _)
  obtain ⟨P, hP⟩ : ∃ P, w4.heap.size = P := ⟨_, rfl⟩
  refine wabsW (fun V => SB w V [(w.heap.size, (edC e o i s q), 48), (w4.heap.size, edC e o2 i2 s2 q2, 32)] ∧ EdV V e o2 i2 s2 q2) ⟨hS5, hE5⟩ ?_
  clear HS3 HB4 HE2 hS4 hS5 hE5
  rintro V5 ⟨S5, E5⟩
  rw [hP] at S5
  rw [hP]
  have HS5 : Hid _ := S5
  have HE5 : Hid _ := E5
  clear S5 E5 hP
  go_upto_region 8 with (first | (refine wpList_load_row rfl 32 _ rfl P rfl 32 (edC e o2 i2 s2 q2) (0, 0) _ (HS5.out.at 1 rfl) Try.underlying32 rfl infoEd ?_) | (go_at_call 11; refine (pI _ _ _ _ _ HE5.out).mono ?_; clear pI; rintro r V ⟨rfl, hb6⟩))
  have HS6 : Hid _ := HS5.out.below hb6
  have HE6 : Hid (EdV V e o2 i2 s2 q2) := EdV.below HE5.out hb6
  have HR1 : Hid (V.rangeAt P 0 (edL e o2 i2 s2 q2)) := range_of_blk (HS6.out.at 1 rfl)
  have HR2 : Hid (V.rangeAt w.heap.size 0 (edL e o i s q)) := range_of_blk (HS6.out.at 0 rfl)
  have HBW : Hid _ := HS6.out.bel
  clear HS5 HE5 hb6 HS6
  have hmx : Try.prog.follows .mixedOrders = true := by kernel_rfl
  have hkeepV : ∀ w1 w2 : World, Below w1.heap.size w1 w2 → Below V.heap.size V w1 → Below V.heap.size V w2 := fun w1 w2 hb hB => bt' hB hb
  have hBelV : ∀ w' : World, Below V.heap.size V w' → Below V.heap.size V w' := fun _ h => h
  have hV0 : Below V.heap.size V V := Below.refl _ _
  go_upto_region 10 with fail
  refine wp_region_noPanic ?_
  refine wp_region_held_drew (S := fun w' => Below V.heap.size V w') (by kernel_rfl) ?_ (fun hHeld => ?_)
  · exact hkeepV _ _ ((Below.refl _ _).drew) hV0
  (refine wpAnyH_take (i := 0) (v := .agg (edL e o2 i2 s2 q2).toArray) (by simp only [List.getElem?_toArray, List.getElem?_cons_zero]; rfl) (by kernel_rfl) (by kernel_rfl) (by kernel_rfl) (fun _ _ _ h => h) (yieldsIf_load_mid (by kernel_rfl) 32 _ (by rfl) P 0 (by rfl) (edL e o2 i2 s2 q2) _ (fun w2 h => range_below HR1.out (hBelV w2 h)) Try.underlying32 (by rfl) infoEd) (by assumption) ?restaV0; try go_frame)
  (refine wpAnyH_take (i := 1) (v := .agg (edL e o i s q).toArray) (by simp only [List.getElem?_toArray, List.getElem?_cons_succ, List.getElem?_cons_zero]; rfl) (by kernel_rfl) (by kernel_rfl) (by kernel_rfl) (fun _ _ _ h => h) (yieldsIf_load_mid (by kernel_rfl) 48 _ (by rfl) w.heap.size 0 (by rfl) (edL e o i s q) _ (fun w2 h => range_below HR2.out (hBelV w2 h)) Try.underlying48 (by rfl) infoEdL) (by assumption) ?restaV1; try go_frame)
  refine wpAnyH_ready (rs := [2]) (by kernel_rfl) (by simp) ?_
  refine AllReadyH.cons (by simp only [List.getElem?_toArray, List.getElem?_cons_succ, List.getElem?_cons_zero]; rfl) (fun K hK => ?_) AllReadyH.nil
  first | (go_at_call 18; refine (tE3 _ (btF HBW.out (hBelV _ (by assumption)))).mono ?_; clear tE3; rintro r wN ⟨o3, i3, s3, q3, hg3, rfl, hEo, hbN⟩; have hE3 := hEo.read; clear hEo) | (go_simp; (go_at_call 18; refine (tE3 _ (btF HBW.out (hBelV _ (by assumption)))).mono ?_; clear tE3; rintro r wN ⟨o3, i3, s3, q3, hg3, rfl, hEo, hbN⟩; have hE3 := hEo.read; clear hEo))
  try (go_wp2_with fail)
  refine hK.out _ _ ?_ (fun hHeld => ?_)
  · (try dsimp only); exact hkeepV _ _ hbN (by assumption)
  clear hK K
  try go_frame
  refine wpAnyH_ready (rs := [3]) (by kernel_rfl) (by simp) ?_
  refine AllReadyH.cons (by simp only [List.getElem?_toArray, List.getElem?_cons_succ, List.getElem?_cons_zero]; rfl) (fun K hK => ?_) AllReadyH.nil
  first | (go_at_call 13; refine (eqEnd_same e o2 i2 s2 q2 o3 i3 s3 q3 _ (EdV.below HE6.out (hBelV _ (by assumption))) hE3 (EdLn.of HBD.out)).mono ?_; clear hE3; rintro r wN ⟨rfl, hbN⟩) | (go_simp; (go_at_call 13; refine (eqEnd_same e o2 i2 s2 q2 o3 i3 s3 q3 _ (EdV.below HE6.out (hBelV _ (by assumption))) hE3 (EdLn.of HBD.out)).mono ?_; clear hE3; rintro r wN ⟨rfl, hbN⟩))
  try (go_wp2_with fail)
  refine hK.out _ _ ?_ (fun hHeld => ?_)
  · (try dsimp only); exact hkeepV _ _ hbN (by assumption)
  clear hK K
  try go_frame
  (refine wpAnyH_take (i := 4) (v := ?vaV4) (by simp only [List.getElem?_toArray, List.getElem?_cons_succ, List.getElem?_cons_zero]; rfl) (by kernel_rfl) (by kernel_rfl) (by kernel_rfl) (fun _ _ _ h => h) (Or.inl ⟨by kernel_rfl, ?hyaV4⟩) (by assumption) ?restaV4; (case hyaV4 => ((intro w' hSw); (try dsimp only at hSw); go_simp; (try with_reducible rfl))); try go_frame)
  refine wpAnyH_done (by kernel_rfl) ?_ _
  refine NoPanic.normal ?_
  go_wp2_with fail
  go_ret
  exact ⟨rfl, btF HBW.out (hBelV _ (by first | assumption | exact hkeepV _ _ hbN (by assumption)))⟩
end Go.Proofs.Ytghgcobnmmommaa
