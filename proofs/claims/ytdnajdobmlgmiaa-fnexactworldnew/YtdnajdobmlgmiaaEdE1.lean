import Derived.Test.YtdnajdobmlgmiaaCB
import Derived.Test.YtdnajdobmlgmiaaCA
import Derived.Test.YtdnajdobmlgmiaaBB
import Derived.Deep.RegionHeld3
import Derived.Maps.RangeWalk
namespace Go.Proofs.Ytdnajdobmlgmiaa
open Go.RowKit
set_option linter.unusedVariables false

/-- An end of which all sizes can be told. -/
structure EdBd (e : Ed) : Prop where
  sts : ∀ s ∈ e.sts, SmBd s
  n : e.sts.length ≤ 1048576
  out : fsBd e.out
  outn : e.out.length ≤ 1048576
  inn : fsBd e.inn
  innn : e.inn.length ≤ 1048576
  came : e.came.size ≤ maxLen
  wait : ∀ f ∈ e.wait, f.b.size ≤ maxLen
  m : e.wait.length ≤ 1048576
def pid (l : List Sm) (k : Nat) : Int := match k with | 0 => 0 | j + 1 => match l[j]? with | none => 0 | some s => s.id
theorem smsOk_at (ans : Bool) (l : List Sm) (k : Nat) (s : Sm) (h : l[k]? = some s) : smsOk ans (pid l k) k (l.drop k) = (smOk s && ((decide (k = 0) || decide (pid l k < s.id)) && ((ans || decide (s.id = 2 * (k : Int) + 1)) && smsOk ans (pid l (k + 1)) (k + 1) (l.drop (k + 1))))) := by
  obtain ⟨hlt, e⟩ := List.getElem?_eq_some_iff.1 h
  rw [List.drop_eq_getElem_cons hlt, e]
  show (smOk s && ((decide (k = 0) || decide (pid l k < s.id)) && ((ans || decide (s.id = 2 * (k : Int) + 1)) && smsOk ans s.id (k + 1) (l.drop (k + 1))))) = _
  have : pid l (k + 1) = s.id := by show (match l[k]? with | none => 0 | some s => s.id) = s.id; rw [h]
  rw [this]
theorem rangeAt_below {w w' : World} {b o : Nat} {cs : List Value} (h : w.rangeAt b o cs) (hb : Below w.heap.size w w') : w'.rangeAt b o cs := fun j v hv => by
  have hc := h j v hv
  rw [hb.cell (p := ⟨b, o + j, none⟩) (World.block_lt_of_cell? w _ hc)]
  exact hc
theorem Rw.range {w : World} {g o n cap size : Nat} {xs ys : List Value} (h : Rw w (some ⟨g, o, none⟩) n cap size xs) {k : Nat} (hy : ∀ j, j < ys.length → xs[k + j]? = ys[j]?) : w.rangeAt g (o + k) ys := by
  intro j v hv
  have hj := (List.getElem?_eq_some_iff.1 hv).1
  have := h.cells g o rfl (k + j) v (by rw [hy j hj]; exact hv)
  rwa [← Nat.add_assoc] at this
def frC (f : Fr) : List Value := [.int .i64 f.k, .bool f.l, .int .i64 f.s, .string f.b]
theorem cellsFr_range (l : List Fr) (k : Nat) (f : Fr) (h : l[k]? = some f) : ∀ j, j < (frC f).length → (cellsFr l)[k * 4 + j]? = (frC f)[j]? := by
  obtain ⟨hlt, e⟩ := List.getElem?_eq_some_iff.1 h
  obtain ⟨c0, c1, c2, c3⟩ := cellsFr_at l k hlt
  rw [e] at c0 c1 c2 c3
  intro j hj
  have hj4 : j < 4 := hj
  match j, hj4 with
  | 0, _ => exact c0
  | 1, _ => exact c1
  | 2, _ => exact c2
  | 3, _ => exact c3
theorem infoFrE : (Try.prog.info? 73).map (·.size) = some 4 := by kernel_rfl

set_option maxRecDepth 100000 in
set_option maxHeartbeats 80000000 in
theorem specEndOk (e : Ed) (o i s q : Value) (w : World) (he : EdV w e o i s q) (hbd : EdBd e) :
    Calls Try.prog 20 #[.agg (edC e o i s q)] w fun r w' => r = .returned (.bool (edOk e)) ∧ Below w.heap.size w w' := by
  have hB : Below w.heap.size w (w.alloc (.cells (edC e o i s q) 30)) := (Below.refl _ _).alloc (Nat.le_refl _) _
  have hR : (w.alloc (.cells (edC e o i s q) 30)).heap[w.heap.size]? = some (.cells (edC e o i s q) 30 (0, 0)) := heap_alloc_last w _
  obtain ⟨xs, ⟨a, c, rfl, hrw⟩, hsm⟩ := he.sts
  obtain ⟨aq, cq, rfl, hrq⟩ := he.wait
  obtain ⟨ao, no, co, rfl, hfo⟩ := he.out
  obtain ⟨ai, ni, ci, rfl, hfi⟩ := he.inn
  have hle := hrw.le
  have hcm := hrw.cmax
  unfold maxLen at hcm
  have hleq := hrq.le
  have hcmq := hrq.cmax
  unfold maxLen at hcmq
  have hln := hbd.n
  have hlm := hbd.m
  have HRW : Hid _ := hrw
  have HSM : Hid _ := hsm
  have HRQ : Hid _ := hrq
  have HFO : Hid _ := hfo
  have HFI : Hid _ := hfi
  have HBD : Hid _ := hbd
  have HR : Hid _ := hR
  have HB : Hid _ := hB
  clear he hrw hsm hrq hfo hfi hbd
  obtain ⟨n, hn⟩ : ∃ n, e.sts.length = n := ⟨_, rfl⟩
  obtain ⟨m, hm⟩ : ∃ m, e.wait.length = m := ⟨_, rfl⟩
  have HE : Hid (edC e (.slice ao no co) (.slice ai ni ci) (.slice a e.sts.length c) (.slice aq e.wait.length cq) = edC e (.slice ao no co) (.slice ai ni ci) (.slice a n c) (.slice aq m cq)) := by rw [hn, hm]; rfl
  rw [HE.out] at hR hB
  rw [HE.out]
  have HN : Hid (e.sts.length = n) := hn
  have HM : Hid (e.wait.length = m) := hm
  rw [hn] at HRW hle hln
  rw [hm] at HRQ hleq hlm
  have q4 := cellE hR 6 (.slice a n c) rfl
  have q0 := cellE hR 0 (.bool e.ans) rfl
  have hR0 := hR
  clear hR hn hm
  have hmx : Try.prog.follows .mixedOrders = true := by kernel_rfl
  go_enter Try.func20, Try.ntmps20
  go_wp2
  go_loopw [3] (fun i3 wr => ∃ k : Nat, k ≤ n ∧ i3 = .int .i64 k ∧ smsOk e.ans 0 0 e.sts = smsOk e.ans (pid e.sts k) k (e.sts.drop k) ∧ wr.heap[w.heap.size]? = some (.cells (edC e (.slice ao no co) (.slice ai ni ci) (.slice a n c) (.slice aq m cq)) 30 (0, 0)) ∧ Below w.heap.size w wr) (fun i3 _ => n - (intOf i3).toNat)
  case atStart => exact ⟨0, Nat.zero_le _, rfl, rfl, hR0, hB⟩
  case round =>
    obtain ⟨k, hk, rfl, hso, hRk, hBk⟩ := hrel
    have HSO : Hid _ := hso
    have HRK : Hid _ := hRk
    have HBK : Hid _ := hBk
    have k4 := cellE hRk 6 (.slice a n c) rfl
    have k0 := cellE hRk 0 (.bool e.ans) rfl
    clear hso hRk hBk q4 q0 hR0
    by_cases hlt : k < n
    · have hlt' : (k : Int) < n := by omega
      have hk0 : (0 : Int) ≤ k := by omega
      obtain ⟨t, ht⟩ : ∃ t, e.sts[k]? = some t := ⟨_, List.getElem?_eq_getElem (by rw [HN.out]; exact hlt)⟩
      have HAT : Hid _ := smsOk_at e.ans e.sts k t ht
      obtain ⟨ah, nh, ch, ag, ng, cg, hfh, hfg, hc⟩ := HSM.out.at k t ht
      rcases HRW.out.form with ⟨_, h, _⟩ | ⟨g, oo, rfl⟩
      · omega
      have HRG : Hid _ := rangeAt_below (HRW.out.range (ys := smC t (.slice ah nh ch) (.slice ag ng cg)) hc) HBK.out
      have HFH : Hid _ := hfh.below HBK.out
      have HFG : Hid _ := hfg.below HBK.out
      have hst := fun (W : World) (h1 : Fs W ah nh ch t.head) (h2 : Fs W ag ng cg t.got) => l21Stream_any t ah ag nh ch ng cg W h1 h2 (HBD.out.sts t (List.mem_of_getElem? ht))
      clear hfh hfg hc ht
      have c0 := HRG.out 0 (.int .i64 t.id) rfl
      rw [Nat.add_zero] at c0
      cases hsk : smOk t with
      | false =>
        rw [hsk] at hst
        have HSK : Hid _ := hsk
        clear hsk
        go_upto_region 4 with fail
        have hkeepV : ∀ w1 w2 : World, Below w1.heap.size w1 w2 → (w1.cell? ⟨w.heap.size, 6, none⟩ = some (.slice (some ⟨g, oo, none⟩) n c) ∧ w1.cell? ⟨w.heap.size, 0, none⟩ = some (.bool e.ans) ∧ w1.cell? ⟨g, oo + k * 12, none⟩ = some (.int .i64 t.id) ∧ Below wr.heap.size wr w1) → (w2.cell? ⟨w.heap.size, 6, none⟩ = some (.slice (some ⟨g, oo, none⟩) n c) ∧ w2.cell? ⟨w.heap.size, 0, none⟩ = some (.bool e.ans) ∧ w2.cell? ⟨g, oo + k * 12, none⟩ = some (.int .i64 t.id) ∧ Below wr.heap.size wr w2) := by
          rintro w1 w2 hb ⟨h0, h1, h2, hB⟩
          exact ⟨keepc hb h0, keepc hb h1, keepc hb h2, bt' hB hb⟩
        have hBelV : ∀ w' : World, (w'.cell? ⟨w.heap.size, 6, none⟩ = some (.slice (some ⟨g, oo, none⟩) n c) ∧ w'.cell? ⟨w.heap.size, 0, none⟩ = some (.bool e.ans) ∧ w'.cell? ⟨g, oo + k * 12, none⟩ = some (.int .i64 t.id) ∧ Below wr.heap.size wr w') → Below wr.heap.size wr w' := fun w' h => h.2.2.2
        have hV0 : wr.cell? ⟨w.heap.size, 6, none⟩ = some (.slice (some ⟨g, oo, none⟩) n c) ∧ wr.cell? ⟨w.heap.size, 0, none⟩ = some (.bool e.ans) ∧ wr.cell? ⟨g, oo + k * 12, none⟩ = some (.int .i64 t.id) ∧ Below wr.heap.size wr wr := ⟨k4, k0, c0, Below.refl _ _⟩
        refine wp_region_noPanic ?_
        refine wp_region_held_drew (S := fun w' => w'.cell? ⟨w.heap.size, 6, none⟩ = some (.slice (some ⟨g, oo, none⟩) n c) ∧ w'.cell? ⟨w.heap.size, 0, none⟩ = some (.bool e.ans) ∧ w'.cell? ⟨g, oo + k * 12, none⟩ = some (.int .i64 t.id) ∧ Below wr.heap.size wr w') (by kernel_rfl) ?_ (fun hHeld => ?_)
        · exact hkeepV _ _ ((Below.refl _ _).drew) hV0
        (refine wpAnyH_take (i := 0) (v := ?vaV0) (by simp only [List.getElem?_toArray, List.getElem?_cons_zero]; rfl) (by kernel_rfl) (by kernel_rfl) (by kernel_rfl) (fun _ _ _ h => h) (Or.inl ⟨by kernel_rfl, ?hyaV0⟩) (by assumption) ?restaV0; (case hyaV0 => ((intro w' hSw); (try dsimp only at hSw); go_simp; (try with_reducible rfl))); try go_frame)
        (refine wpAnyH_take (i := 1) (v := ?vaV1) (by simp only [List.getElem?_toArray, List.getElem?_cons_succ, List.getElem?_cons_zero]; rfl) (by kernel_rfl) (by kernel_rfl) (by kernel_rfl) (fun _ _ _ h => h) (Or.inl ⟨by kernel_rfl, ?hyaV1⟩) (by assumption) ?restaV1; (case hyaV1 => ((intro w' hSw); (try dsimp only at hSw); go_simp; (try with_reducible rfl))); try go_frame)
        (refine wpAnyH_take (i := 2) (v := ?vaV2) (by simp only [List.getElem?_toArray, List.getElem?_cons_succ, List.getElem?_cons_zero]; rfl) (by kernel_rfl) (by kernel_rfl) (by kernel_rfl) (fun _ _ _ h => h) (Or.inl ⟨by kernel_rfl, ?hyaV2⟩) (by assumption) ?restaV2; (case hyaV2 => ((intro w' hSw); (try dsimp only at hSw); go_simp; (try with_reducible rfl))); try go_frame)
        (refine wpAnyH_take (i := 3) (v := ?vaV3) (by simp only [List.getElem?_toArray, List.getElem?_cons_succ, List.getElem?_cons_zero]; rfl) (by kernel_rfl) (by kernel_rfl) (by kernel_rfl) (fun _ _ _ h => h) (Or.inl ⟨by kernel_rfl, ?hyaV3⟩) (by assumption) ?restaV3; (case hyaV3 => ((intro w' hSw); (try dsimp only at hSw); go_simp; (try with_reducible rfl))); try go_frame)
        (refine wpAnyH_take (i := 4) (v := .agg (smC t (.slice ah nh ch) (.slice ag ng cg)).toArray) (by simp only [List.getElem?_toArray, List.getElem?_cons_succ, List.getElem?_cons_zero]; rfl) (by kernel_rfl) (by kernel_rfl) (by kernel_rfl) (fun _ _ _ h => h) (yieldsIf_load_mid (by kernel_rfl) 70 _ (by rfl) g (oo + k * 12) (by rfl) (smC t (.slice ah nh ch) (.slice ag ng cg)) _ (fun w' h => rangeAt_below HRG.out (hBelV w' h)) Try.underlying70 (by rfl) infoSm) (by assumption) ?restaV4; try go_frame)
        refine wpAnyH_ready (rs := [5]) (by kernel_rfl) (by simp) ?_
        refine AllReadyH.cons (by simp only [List.getElem?_toArray, List.getElem?_cons_succ, List.getElem?_cons_zero]; rfl) (fun K hK => ?_) AllReadyH.nil
        first | (go_at_call 37; refine (hst _ (HFH.out.below (hBelV _ (by assumption))) (HFG.out.below (hBelV _ (by assumption)))).mono ?_; rintro r wN ⟨rfl, hbN⟩) | (go_simp; (go_at_call 37; refine (hst _ (HFH.out.below (hBelV _ (by assumption))) (HFG.out.below (hBelV _ (by assumption)))).mono ?_; rintro r wN ⟨rfl, hbN⟩))
        try (go_wp2_with fail)
        refine hK.out _ _ ?_ (fun hHeld => ?_)
        · (try dsimp only); exact hkeepV _ _ hbN (by assumption)
        clear hK K
        try go_frame
        (refine wpAnyH_take (i := 6) (v := ?vaV6) (by simp only [List.getElem?_toArray, List.getElem?_cons_succ, List.getElem?_cons_zero]; rfl) (by kernel_rfl) (by kernel_rfl) (by kernel_rfl) (fun _ _ _ h => h) (Or.inl ⟨by kernel_rfl, ?hyaV6⟩) (by assumption) ?restaV6; (case hyaV6 => ((intro w' hSw); (try dsimp only at hSw); go_simp; (try with_reducible rfl))); try go_frame)
        (refine wpAnyH_take (i := 7) (v := ?vaV7) (by simp only [List.getElem?_toArray, List.getElem?_cons_succ, List.getElem?_cons_zero]; rfl) (by kernel_rfl) (by kernel_rfl) (by kernel_rfl) (fun _ _ _ h => h) (Or.inl ⟨by kernel_rfl, ?hyaV7⟩) (by assumption) ?restaV7; (case hyaV7 => ((intro w' hSw); (try dsimp only at hSw); go_simp; (try with_reducible rfl))); try go_frame)
        (refine wpAnyH_take (i := 8) (v := undef) (by simp only [List.getElem?_toArray, List.getElem?_cons_succ, List.getElem?_cons_zero]; rfl) (by kernel_rfl) (by kernel_rfl) (by kernel_rfl) (fun _ _ _ h => h) (Or.inr ⟨by kernel_rfl, rfl⟩) (by assumption) ?_; try go_frame)
        (refine wpAnyH_take (i := 9) (v := undef) (by simp only [List.getElem?_toArray, List.getElem?_cons_succ, List.getElem?_cons_zero]; rfl) (by kernel_rfl) (by kernel_rfl) (by kernel_rfl) (fun _ _ _ h => h) (Or.inr ⟨by kernel_rfl, rfl⟩) (by assumption) ?_; try go_frame)
        (refine wpAnyH_take (i := 10) (v := undef) (by simp only [List.getElem?_toArray, List.getElem?_cons_succ, List.getElem?_cons_zero]; rfl) (by kernel_rfl) (by kernel_rfl) (by kernel_rfl) (fun _ _ _ h => h) (Or.inr ⟨by kernel_rfl, rfl⟩) (by assumption) ?_; try go_frame)
        (refine wpAnyH_take (i := 11) (v := undef) (by simp only [List.getElem?_toArray, List.getElem?_cons_succ, List.getElem?_cons_zero]; rfl) (by kernel_rfl) (by kernel_rfl) (by kernel_rfl) (fun _ _ _ h => h) (Or.inr ⟨by kernel_rfl, rfl⟩) (by assumption) ?_; try go_frame)
        (refine wpAnyH_take (i := 12) (v := undef) (by simp only [List.getElem?_toArray, List.getElem?_cons_succ, List.getElem?_cons_zero]; rfl) (by kernel_rfl) (by kernel_rfl) (by kernel_rfl) (fun _ _ _ h => h) (Or.inr ⟨by kernel_rfl, rfl⟩) (by assumption) ?_; try go_frame)
        (refine wpAnyH_take (i := 13) (v := undef) (by simp only [List.getElem?_toArray, List.getElem?_cons_succ, List.getElem?_cons_zero]; rfl) (by kernel_rfl) (by kernel_rfl) (by kernel_rfl) (fun _ _ _ h => h) (Or.inr ⟨by kernel_rfl, rfl⟩) (by assumption) ?_; try go_frame)
        (refine wpAnyH_take (i := 14) (v := undef) (by simp only [List.getElem?_toArray, List.getElem?_cons_succ, List.getElem?_cons_zero]; rfl) (by kernel_rfl) (by kernel_rfl) (by kernel_rfl) (fun _ _ _ h => h) (Or.inr ⟨by kernel_rfl, rfl⟩) (by assumption) ?_; try go_frame)
        (refine wpAnyH_take (i := 15) (v := undef) (by simp only [List.getElem?_toArray, List.getElem?_cons_succ, List.getElem?_cons_zero]; rfl) (by kernel_rfl) (by kernel_rfl) (by kernel_rfl) (fun _ _ _ h => h) (Or.inr ⟨by kernel_rfl, rfl⟩) (by assumption) ?_; try go_frame)
        (refine wpAnyH_take (i := 16) (v := undef) (by simp only [List.getElem?_toArray, List.getElem?_cons_succ, List.getElem?_cons_zero]; rfl) (by kernel_rfl) (by kernel_rfl) (by kernel_rfl) (fun _ _ _ h => h) (Or.inr ⟨by kernel_rfl, rfl⟩) (by assumption) ?_; try go_frame)
        (refine wpAnyH_take (i := 17) (v := undef) (by simp only [List.getElem?_toArray, List.getElem?_cons_succ, List.getElem?_cons_zero]; rfl) (by kernel_rfl) (by kernel_rfl) (by kernel_rfl) (fun _ _ _ h => h) (Or.inr ⟨by kernel_rfl, rfl⟩) (by assumption) ?_; try go_frame)
        (refine wpAnyH_take (i := 18) (v := undef) (by simp only [List.getElem?_toArray, List.getElem?_cons_succ, List.getElem?_cons_zero]; rfl) (by kernel_rfl) (by kernel_rfl) (by kernel_rfl) (fun _ _ _ h => h) (Or.inr ⟨by kernel_rfl, rfl⟩) (by assumption) ?_; try go_frame)
        (refine wpAnyH_take (i := 19) (v := undef) (by simp only [List.getElem?_toArray, List.getElem?_cons_succ, List.getElem?_cons_zero]; rfl) (by kernel_rfl) (by kernel_rfl) (by kernel_rfl) (fun _ _ _ h => h) (Or.inr ⟨by kernel_rfl, rfl⟩) (by assumption) ?_; try go_frame)
        (refine wpAnyH_take (i := 20) (v := undef) (by simp only [List.getElem?_toArray, List.getElem?_cons_succ, List.getElem?_cons_zero]; rfl) (by kernel_rfl) (by kernel_rfl) (by kernel_rfl) (fun _ _ _ h => h) (Or.inr ⟨by kernel_rfl, rfl⟩) (by assumption) ?_; try go_frame)
        (refine wpAnyH_take (i := 21) (v := undef) (by simp only [List.getElem?_toArray, List.getElem?_cons_succ, List.getElem?_cons_zero]; rfl) (by kernel_rfl) (by kernel_rfl) (by kernel_rfl) (fun _ _ _ h => h) (Or.inr ⟨by kernel_rfl, rfl⟩) (by assumption) ?_; try go_frame)
        (refine wpAnyH_take (i := 22) (v := undef) (by simp only [List.getElem?_toArray, List.getElem?_cons_succ, List.getElem?_cons_zero]; rfl) (by kernel_rfl) (by kernel_rfl) (by kernel_rfl) (fun _ _ _ h => h) (Or.inr ⟨by kernel_rfl, rfl⟩) (by assumption) ?_; try go_frame)
        (refine wpAnyH_take (i := 23) (v := undef) (by simp only [List.getElem?_toArray, List.getElem?_cons_succ, List.getElem?_cons_zero]; rfl) (by kernel_rfl) (by kernel_rfl) (by kernel_rfl) (fun _ _ _ h => h) (Or.inr ⟨by kernel_rfl, rfl⟩) (by assumption) ?_; try go_frame)
        (refine wpAnyH_take (i := 24) (v := undef) (by simp only [List.getElem?_toArray, List.getElem?_cons_succ, List.getElem?_cons_zero]; rfl) (by kernel_rfl) (by kernel_rfl) (by kernel_rfl) (fun _ _ _ h => h) (Or.inr ⟨by kernel_rfl, rfl⟩) (by assumption) ?_; try go_frame)
        (refine wpAnyH_take (i := 25) (v := undef) (by simp only [List.getElem?_toArray, List.getElem?_cons_succ, List.getElem?_cons_zero]; rfl) (by kernel_rfl) (by kernel_rfl) (by kernel_rfl) (fun _ _ _ h => h) (Or.inr ⟨by kernel_rfl, rfl⟩) (by assumption) ?_; try go_frame)
        (refine wpAnyH_take (i := 26) (v := ?vaV26) (by simp only [List.getElem?_toArray, List.getElem?_cons_succ, List.getElem?_cons_zero]; rfl) (by kernel_rfl) (by kernel_rfl) (by kernel_rfl) (fun _ _ _ h => h) (Or.inl ⟨by kernel_rfl, ?hyaV26⟩) (by assumption) ?restaV26; (case hyaV26 => ((intro w' hSw); (try dsimp only at hSw); go_simp; (try with_reducible rfl))); try go_frame)
        (refine wpAnyH_take (i := 27) (v := ?vaV27) (by simp only [List.getElem?_toArray, List.getElem?_cons_succ, List.getElem?_cons_zero]; rfl) (by kernel_rfl) (by kernel_rfl) (by kernel_rfl) (fun _ _ _ h => h) (Or.inl ⟨by kernel_rfl, ?hyaV27⟩) (by assumption) ?restaV27; (case hyaV27 => ((intro w' hSw); (try dsimp only at hSw); go_simp; (try with_reducible rfl))); try go_frame)
        (refine wpAnyH_take (i := 28) (v := undef) (by simp only [List.getElem?_toArray, List.getElem?_cons_succ, List.getElem?_cons_zero]; rfl) (by kernel_rfl) (by kernel_rfl) (by kernel_rfl) (fun _ _ _ h => h) (Or.inr ⟨by kernel_rfl, rfl⟩) (by assumption) ?_; try go_frame)
        (refine wpAnyH_take (i := 29) (v := undef) (by simp only [List.getElem?_toArray, List.getElem?_cons_succ, List.getElem?_cons_zero]; rfl) (by kernel_rfl) (by kernel_rfl) (by kernel_rfl) (fun _ _ _ h => h) (Or.inr ⟨by kernel_rfl, rfl⟩) (by assumption) ?_; try go_frame)
        (refine wpAnyH_take (i := 30) (v := undef) (by simp only [List.getElem?_toArray, List.getElem?_cons_succ, List.getElem?_cons_zero]; rfl) (by kernel_rfl) (by kernel_rfl) (by kernel_rfl) (fun _ _ _ h => h) (Or.inr ⟨by kernel_rfl, rfl⟩) (by assumption) ?_; try go_frame)
        (refine wpAnyH_take (i := 31) (v := undef) (by simp only [List.getElem?_toArray, List.getElem?_cons_succ, List.getElem?_cons_zero]; rfl) (by kernel_rfl) (by kernel_rfl) (by kernel_rfl) (fun _ _ _ h => h) (Or.inr ⟨by kernel_rfl, rfl⟩) (by assumption) ?_; try go_frame)
        (refine wpAnyH_take (i := 32) (v := undef) (by simp only [List.getElem?_toArray, List.getElem?_cons_succ, List.getElem?_cons_zero]; rfl) (by kernel_rfl) (by kernel_rfl) (by kernel_rfl) (fun _ _ _ h => h) (Or.inr ⟨by kernel_rfl, rfl⟩) (by assumption) ?_; try go_frame)
        (refine wpAnyH_take (i := 33) (v := undef) (by simp only [List.getElem?_toArray, List.getElem?_cons_succ, List.getElem?_cons_zero]; rfl) (by kernel_rfl) (by kernel_rfl) (by kernel_rfl) (fun _ _ _ h => h) (Or.inr ⟨by kernel_rfl, rfl⟩) (by assumption) ?_; try go_frame)
        (refine wpAnyH_take (i := 34) (v := undef) (by simp only [List.getElem?_toArray, List.getElem?_cons_succ, List.getElem?_cons_zero]; rfl) (by kernel_rfl) (by kernel_rfl) (by kernel_rfl) (fun _ _ _ h => h) (Or.inr ⟨by kernel_rfl, rfl⟩) (by assumption) ?_; try go_frame)
        (refine wpAnyH_take (i := 35) (v := undef) (by simp only [List.getElem?_toArray, List.getElem?_cons_succ, List.getElem?_cons_zero]; rfl) (by kernel_rfl) (by kernel_rfl) (by kernel_rfl) (fun _ _ _ h => h) (Or.inr ⟨by kernel_rfl, rfl⟩) (by assumption) ?_; try go_frame)
        (refine wpAnyH_take (i := 36) (v := undef) (by simp only [List.getElem?_toArray, List.getElem?_cons_succ, List.getElem?_cons_zero]; rfl) (by kernel_rfl) (by kernel_rfl) (by kernel_rfl) (fun _ _ _ h => h) (Or.inr ⟨by kernel_rfl, rfl⟩) (by assumption) ?_; try go_frame)
        (refine wpAnyH_take (i := 37) (v := undef) (by simp only [List.getElem?_toArray, List.getElem?_cons_succ, List.getElem?_cons_zero]; rfl) (by kernel_rfl) (by kernel_rfl) (by kernel_rfl) (fun _ _ _ h => h) (Or.inr ⟨by kernel_rfl, rfl⟩) (by assumption) ?_; try go_frame)
        (refine wpAnyH_take (i := 38) (v := undef) (by simp only [List.getElem?_toArray, List.getElem?_cons_succ, List.getElem?_cons_zero]; rfl) (by kernel_rfl) (by kernel_rfl) (by kernel_rfl) (fun _ _ _ h => h) (Or.inr ⟨by kernel_rfl, rfl⟩) (by assumption) ?_; try go_frame)
        (refine wpAnyH_take (i := 39) (v := undef) (by simp only [List.getElem?_toArray, List.getElem?_cons_succ, List.getElem?_cons_zero]; rfl) (by kernel_rfl) (by kernel_rfl) (by kernel_rfl) (fun _ _ _ h => h) (Or.inr ⟨by kernel_rfl, rfl⟩) (by assumption) ?_; try go_frame)
        (refine wpAnyH_take (i := 40) (v := undef) (by simp only [List.getElem?_toArray, List.getElem?_cons_succ, List.getElem?_cons_zero]; rfl) (by kernel_rfl) (by kernel_rfl) (by kernel_rfl) (fun _ _ _ h => h) (Or.inr ⟨by kernel_rfl, rfl⟩) (by assumption) ?_; try go_frame)
        (refine wpAnyH_take (i := 41) (v := undef) (by simp only [List.getElem?_toArray, List.getElem?_cons_succ, List.getElem?_cons_zero]; rfl) (by kernel_rfl) (by kernel_rfl) (by kernel_rfl) (fun _ _ _ h => h) (Or.inr ⟨by kernel_rfl, rfl⟩) (by assumption) ?_; try go_frame)
        (refine wpAnyH_take (i := 42) (v := undef) (by simp only [List.getElem?_toArray, List.getElem?_cons_succ, List.getElem?_cons_zero]; rfl) (by kernel_rfl) (by kernel_rfl) (by kernel_rfl) (fun _ _ _ h => h) (Or.inr ⟨by kernel_rfl, rfl⟩) (by assumption) ?_; try go_frame)
        (refine wpAnyH_take (i := 43) (v := ?vaV43) (by simp only [List.getElem?_toArray, List.getElem?_cons_succ, List.getElem?_cons_zero]; rfl) (by kernel_rfl) (by kernel_rfl) (by kernel_rfl) (fun _ _ _ h => h) (Or.inl ⟨by kernel_rfl, ?hyaV43⟩) (by assumption) ?restaV43; (case hyaV43 => ((intro w' hSw); (try dsimp only at hSw); go_simp; (try with_reducible rfl))); try go_frame)
        refine wpAnyH_done (by kernel_rfl) ?_ _
        refine NoPanic.normal ?_
        go_wp2
        go_ret
        refine ⟨?_, btF HBK.out (hBelV _ (by assumption))⟩
        have hend : edOk e = false := by
          unfold edOk
          rw [HSO.out, HAT.out]
          simp [HSK.out]
        rw [hend]
        rfl
      | true =>
        rw [hsk] at hst
        have HSK : Hid _ := hsk
        clear hsk
        cases k with
        | zero =>
          have c0' : wr.cell? ⟨g, oo, none⟩ = some (.int .i64 t.id) := by simpa using c0
          clear c0
          have c0 := c0'
          clear c0'
          obtain ⟨an, ha⟩ : ∃ an, e.ans = an := ⟨_, rfl⟩
          rw [ha] at k0
          have HA : Hid (e.ans = an) := ha
          clear ha
          cases an with
          | true =>
            go_upto_region 4 with fail
            have hkeepV : ∀ w1 w2 : World, Below w1.heap.size w1 w2 → (w1.cell? ⟨w.heap.size, 6, none⟩ = some (.slice (some ⟨g, oo, none⟩) n c) ∧ w1.cell? ⟨w.heap.size, 0, none⟩ = some (.bool true) ∧ w1.cell? ⟨g, oo, none⟩ = some (.int .i64 t.id) ∧ Below wr.heap.size wr w1) → (w2.cell? ⟨w.heap.size, 6, none⟩ = some (.slice (some ⟨g, oo, none⟩) n c) ∧ w2.cell? ⟨w.heap.size, 0, none⟩ = some (.bool true) ∧ w2.cell? ⟨g, oo, none⟩ = some (.int .i64 t.id) ∧ Below wr.heap.size wr w2) := by
              rintro w1 w2 hb ⟨h0, h1, h2, hB⟩
              exact ⟨keepc hb h0, keepc hb h1, keepc hb h2, bt' hB hb⟩
            have hBelV : ∀ w' : World, (w'.cell? ⟨w.heap.size, 6, none⟩ = some (.slice (some ⟨g, oo, none⟩) n c) ∧ w'.cell? ⟨w.heap.size, 0, none⟩ = some (.bool true) ∧ w'.cell? ⟨g, oo, none⟩ = some (.int .i64 t.id) ∧ Below wr.heap.size wr w') → Below wr.heap.size wr w' := fun w' h => h.2.2.2
            have hV0 : wr.cell? ⟨w.heap.size, 6, none⟩ = some (.slice (some ⟨g, oo, none⟩) n c) ∧ wr.cell? ⟨w.heap.size, 0, none⟩ = some (.bool true) ∧ wr.cell? ⟨g, oo, none⟩ = some (.int .i64 t.id) ∧ Below wr.heap.size wr wr := ⟨k4, k0, c0, Below.refl _ _⟩
            refine wp_region_noPanic ?_
            refine wp_region_held_drew (S := fun w' => w'.cell? ⟨w.heap.size, 6, none⟩ = some (.slice (some ⟨g, oo, none⟩) n c) ∧ w'.cell? ⟨w.heap.size, 0, none⟩ = some (.bool true) ∧ w'.cell? ⟨g, oo, none⟩ = some (.int .i64 t.id) ∧ Below wr.heap.size wr w') (by kernel_rfl) ?_ (fun hHeld => ?_)
            · exact hkeepV _ _ ((Below.refl _ _).drew) hV0
            (refine wpAnyH_take (i := 0) (v := ?vb1V0) (by simp only [List.getElem?_toArray, List.getElem?_cons_zero]; rfl) (by kernel_rfl) (by kernel_rfl) (by kernel_rfl) (fun _ _ _ h => h) (Or.inl ⟨by kernel_rfl, ?hyb1V0⟩) (by assumption) ?restb1V0; (case hyb1V0 => ((intro w' hSw); (try dsimp only at hSw); go_simp; (try with_reducible rfl))); try go_frame)
            (refine wpAnyH_take (i := 1) (v := ?vb1V1) (by simp only [List.getElem?_toArray, List.getElem?_cons_succ, List.getElem?_cons_zero]; rfl) (by kernel_rfl) (by kernel_rfl) (by kernel_rfl) (fun _ _ _ h => h) (Or.inl ⟨by kernel_rfl, ?hyb1V1⟩) (by assumption) ?restb1V1; (case hyb1V1 => ((intro w' hSw); (try dsimp only at hSw); go_simp; (try with_reducible rfl))); try go_frame)
            (refine wpAnyH_take (i := 2) (v := ?vb1V2) (by simp only [List.getElem?_toArray, List.getElem?_cons_succ, List.getElem?_cons_zero]; rfl) (by kernel_rfl) (by kernel_rfl) (by kernel_rfl) (fun _ _ _ h => h) (Or.inl ⟨by kernel_rfl, ?hyb1V2⟩) (by assumption) ?restb1V2; (case hyb1V2 => ((intro w' hSw); (try dsimp only at hSw); go_simp; (try with_reducible rfl))); try go_frame)
            (refine wpAnyH_take (i := 3) (v := ?vb1V3) (by simp only [List.getElem?_toArray, List.getElem?_cons_succ, List.getElem?_cons_zero]; rfl) (by kernel_rfl) (by kernel_rfl) (by kernel_rfl) (fun _ _ _ h => h) (Or.inl ⟨by kernel_rfl, ?hyb1V3⟩) (by assumption) ?restb1V3; (case hyb1V3 => ((intro w' hSw); (try dsimp only at hSw); go_simp; (try with_reducible rfl))); try go_frame)
            (refine wpAnyH_take (i := 4) (v := .agg (smC t (.slice ah nh ch) (.slice ag ng cg)).toArray) (by simp only [List.getElem?_toArray, List.getElem?_cons_succ, List.getElem?_cons_zero]; rfl) (by kernel_rfl) (by kernel_rfl) (by kernel_rfl) (fun _ _ _ h => h) (yieldsIf_load_mid (by kernel_rfl) 70 _ (by rfl) g (oo + 0 * 12) (by rfl) (smC t (.slice ah nh ch) (.slice ag ng cg)) _ (fun w' h => rangeAt_below HRG.out (hBelV w' h)) Try.underlying70 (by rfl) infoSm) (by assumption) ?restb1V4; try go_frame)
            refine wpAnyH_ready (rs := [5]) (by kernel_rfl) (by simp) ?_
            refine AllReadyH.cons (by simp only [List.getElem?_toArray, List.getElem?_cons_succ, List.getElem?_cons_zero]; rfl) (fun K hK => ?_) AllReadyH.nil
            first | (go_at_call 37; refine (hst _ (HFH.out.below (hBelV _ (by assumption))) (HFG.out.below (hBelV _ (by assumption)))).mono ?_; rintro r wN ⟨rfl, hbN⟩) | (go_simp; (go_at_call 37; refine (hst _ (HFH.out.below (hBelV _ (by assumption))) (HFG.out.below (hBelV _ (by assumption)))).mono ?_; rintro r wN ⟨rfl, hbN⟩))
            try (go_wp2_with fail)
            refine hK.out _ _ ?_ (fun hHeld => ?_)
            · (try dsimp only); exact hkeepV _ _ hbN (by assumption)
            clear hK K
            try go_frame
            (refine wpAnyH_take (i := 6) (v := ?vb1V6) (by simp only [List.getElem?_toArray, List.getElem?_cons_succ, List.getElem?_cons_zero]; rfl) (by kernel_rfl) (by kernel_rfl) (by kernel_rfl) (fun _ _ _ h => h) (Or.inl ⟨by kernel_rfl, ?hyb1V6⟩) (by assumption) ?restb1V6; (case hyb1V6 => ((intro w' hSw); (try dsimp only at hSw); go_simp; (try with_reducible rfl))); try go_frame)
            (refine wpAnyH_take (i := 7) (v := ?vb1V7) (by simp only [List.getElem?_toArray, List.getElem?_cons_succ, List.getElem?_cons_zero]; rfl) (by kernel_rfl) (by kernel_rfl) (by kernel_rfl) (fun _ _ _ h => h) (Or.inl ⟨by kernel_rfl, ?hyb1V7⟩) (by assumption) ?restb1V7; (case hyb1V7 => ((intro w' hSw); (try dsimp only at hSw); go_simp; (try with_reducible rfl))); try go_frame)
            (refine wpAnyH_take (i := 8) (v := ?vb1V8) (by simp only [List.getElem?_toArray, List.getElem?_cons_succ, List.getElem?_cons_zero]; rfl) (by kernel_rfl) (by kernel_rfl) (by kernel_rfl) (fun _ _ _ h => h) (Or.inl ⟨by kernel_rfl, ?hyb1V8⟩) (by assumption) ?restb1V8; (case hyb1V8 => ((intro w' hSw); (try dsimp only at hSw); go_simp; (try with_reducible rfl))); try go_frame)
            (refine wpAnyH_take (i := 9) (v := ?vb1V9) (by simp only [List.getElem?_toArray, List.getElem?_cons_succ, List.getElem?_cons_zero]; rfl) (by kernel_rfl) (by kernel_rfl) (by kernel_rfl) (fun _ _ _ h => h) (Or.inl ⟨by kernel_rfl, ?hyb1V9⟩) (by assumption) ?restb1V9; (case hyb1V9 => ((intro w' hSw); (try dsimp only at hSw); go_simp; (try with_reducible rfl))); try go_frame)
            (refine wpAnyH_take (i := 10) (v := ?vb1V10) (by simp only [List.getElem?_toArray, List.getElem?_cons_succ, List.getElem?_cons_zero]; rfl) (by kernel_rfl) (by kernel_rfl) (by kernel_rfl) (fun _ _ _ h => h) (Or.inl ⟨by kernel_rfl, ?hyb1V10⟩) (by assumption) ?restb1V10; (case hyb1V10 => ((intro w' hSw); (try dsimp only at hSw); go_simp; (try with_reducible rfl))); try go_frame)
            (refine wpAnyH_take (i := 11) (v := undef) (by simp only [List.getElem?_toArray, List.getElem?_cons_succ, List.getElem?_cons_zero]; rfl) (by kernel_rfl) (by kernel_rfl) (by kernel_rfl) (fun _ _ _ h => h) (Or.inr ⟨by kernel_rfl, rfl⟩) (by assumption) ?_; try go_frame)
            (refine wpAnyH_take (i := 12) (v := undef) (by simp only [List.getElem?_toArray, List.getElem?_cons_succ, List.getElem?_cons_zero]; rfl) (by kernel_rfl) (by kernel_rfl) (by kernel_rfl) (fun _ _ _ h => h) (Or.inr ⟨by kernel_rfl, rfl⟩) (by assumption) ?_; try go_frame)
            (refine wpAnyH_take (i := 13) (v := undef) (by simp only [List.getElem?_toArray, List.getElem?_cons_succ, List.getElem?_cons_zero]; rfl) (by kernel_rfl) (by kernel_rfl) (by kernel_rfl) (fun _ _ _ h => h) (Or.inr ⟨by kernel_rfl, rfl⟩) (by assumption) ?_; try go_frame)
            (refine wpAnyH_take (i := 14) (v := undef) (by simp only [List.getElem?_toArray, List.getElem?_cons_succ, List.getElem?_cons_zero]; rfl) (by kernel_rfl) (by kernel_rfl) (by kernel_rfl) (fun _ _ _ h => h) (Or.inr ⟨by kernel_rfl, rfl⟩) (by assumption) ?_; try go_frame)
            (refine wpAnyH_take (i := 15) (v := undef) (by simp only [List.getElem?_toArray, List.getElem?_cons_succ, List.getElem?_cons_zero]; rfl) (by kernel_rfl) (by kernel_rfl) (by kernel_rfl) (fun _ _ _ h => h) (Or.inr ⟨by kernel_rfl, rfl⟩) (by assumption) ?_; try go_frame)
            (refine wpAnyH_take (i := 16) (v := undef) (by simp only [List.getElem?_toArray, List.getElem?_cons_succ, List.getElem?_cons_zero]; rfl) (by kernel_rfl) (by kernel_rfl) (by kernel_rfl) (fun _ _ _ h => h) (Or.inr ⟨by kernel_rfl, rfl⟩) (by assumption) ?_; try go_frame)
            (refine wpAnyH_take (i := 17) (v := undef) (by simp only [List.getElem?_toArray, List.getElem?_cons_succ, List.getElem?_cons_zero]; rfl) (by kernel_rfl) (by kernel_rfl) (by kernel_rfl) (fun _ _ _ h => h) (Or.inr ⟨by kernel_rfl, rfl⟩) (by assumption) ?_; try go_frame)
            (refine wpAnyH_take (i := 18) (v := undef) (by simp only [List.getElem?_toArray, List.getElem?_cons_succ, List.getElem?_cons_zero]; rfl) (by kernel_rfl) (by kernel_rfl) (by kernel_rfl) (fun _ _ _ h => h) (Or.inr ⟨by kernel_rfl, rfl⟩) (by assumption) ?_; try go_frame)
            (refine wpAnyH_take (i := 19) (v := undef) (by simp only [List.getElem?_toArray, List.getElem?_cons_succ, List.getElem?_cons_zero]; rfl) (by kernel_rfl) (by kernel_rfl) (by kernel_rfl) (fun _ _ _ h => h) (Or.inr ⟨by kernel_rfl, rfl⟩) (by assumption) ?_; try go_frame)
            (refine wpAnyH_take (i := 20) (v := undef) (by simp only [List.getElem?_toArray, List.getElem?_cons_succ, List.getElem?_cons_zero]; rfl) (by kernel_rfl) (by kernel_rfl) (by kernel_rfl) (fun _ _ _ h => h) (Or.inr ⟨by kernel_rfl, rfl⟩) (by assumption) ?_; try go_frame)
            (refine wpAnyH_take (i := 21) (v := undef) (by simp only [List.getElem?_toArray, List.getElem?_cons_succ, List.getElem?_cons_zero]; rfl) (by kernel_rfl) (by kernel_rfl) (by kernel_rfl) (fun _ _ _ h => h) (Or.inr ⟨by kernel_rfl, rfl⟩) (by assumption) ?_; try go_frame)
            (refine wpAnyH_take (i := 22) (v := undef) (by simp only [List.getElem?_toArray, List.getElem?_cons_succ, List.getElem?_cons_zero]; rfl) (by kernel_rfl) (by kernel_rfl) (by kernel_rfl) (fun _ _ _ h => h) (Or.inr ⟨by kernel_rfl, rfl⟩) (by assumption) ?_; try go_frame)
            (refine wpAnyH_take (i := 23) (v := undef) (by simp only [List.getElem?_toArray, List.getElem?_cons_succ, List.getElem?_cons_zero]; rfl) (by kernel_rfl) (by kernel_rfl) (by kernel_rfl) (fun _ _ _ h => h) (Or.inr ⟨by kernel_rfl, rfl⟩) (by assumption) ?_; try go_frame)
            (refine wpAnyH_take (i := 24) (v := undef) (by simp only [List.getElem?_toArray, List.getElem?_cons_succ, List.getElem?_cons_zero]; rfl) (by kernel_rfl) (by kernel_rfl) (by kernel_rfl) (fun _ _ _ h => h) (Or.inr ⟨by kernel_rfl, rfl⟩) (by assumption) ?_; try go_frame)
            (refine wpAnyH_take (i := 25) (v := ?vb1V25) (by simp only [List.getElem?_toArray, List.getElem?_cons_succ, List.getElem?_cons_zero]; rfl) (by kernel_rfl) (by kernel_rfl) (by kernel_rfl) (fun _ _ _ h => h) (Or.inl ⟨by kernel_rfl, ?hyb1V25⟩) (by assumption) ?restb1V25; (case hyb1V25 => ((intro w' hSw); (try dsimp only at hSw); go_simp; (try with_reducible rfl))); try go_frame)
            (refine wpAnyH_take (i := 26) (v := ?vb1V26) (by simp only [List.getElem?_toArray, List.getElem?_cons_succ, List.getElem?_cons_zero]; rfl) (by kernel_rfl) (by kernel_rfl) (by kernel_rfl) (fun _ _ _ h => h) (Or.inl ⟨by kernel_rfl, ?hyb1V26⟩) (by assumption) ?restb1V26; (case hyb1V26 => ((intro w' hSw); (try dsimp only at hSw); go_simp; (try with_reducible rfl))); try go_frame)
            (refine wpAnyH_take (i := 27) (v := ?vb1V27) (by simp only [List.getElem?_toArray, List.getElem?_cons_succ, List.getElem?_cons_zero]; rfl) (by kernel_rfl) (by kernel_rfl) (by kernel_rfl) (fun _ _ _ h => h) (Or.inl ⟨by kernel_rfl, ?hyb1V27⟩) (by assumption) ?restb1V27; (case hyb1V27 => ((intro w' hSw); (try dsimp only at hSw); go_simp; (try with_reducible rfl))); try go_frame)
            (refine wpAnyH_take (i := 28) (v := ?vb1V28) (by simp only [List.getElem?_toArray, List.getElem?_cons_succ, List.getElem?_cons_zero]; rfl) (by kernel_rfl) (by kernel_rfl) (by kernel_rfl) (fun _ _ _ h => h) (Or.inl ⟨by kernel_rfl, ?hyb1V28⟩) (by assumption) ?restb1V28; (case hyb1V28 => ((intro w' hSw); (try dsimp only at hSw); go_simp; (try with_reducible rfl))); try go_frame)
            (refine wpAnyH_take (i := 29) (v := ?vb1V29) (by simp only [List.getElem?_toArray, List.getElem?_cons_succ, List.getElem?_cons_zero]; rfl) (by kernel_rfl) (by kernel_rfl) (by kernel_rfl) (fun _ _ _ h => h) (Or.inl ⟨by kernel_rfl, ?hyb1V29⟩) (by assumption) ?restb1V29; (case hyb1V29 => ((intro w' hSw); (try dsimp only at hSw); go_simp; (try with_reducible rfl))); try go_frame)
            (refine wpAnyH_take (i := 30) (v := ?vb1V30) (by simp only [List.getElem?_toArray, List.getElem?_cons_succ, List.getElem?_cons_zero]; rfl) (by kernel_rfl) (by kernel_rfl) (by kernel_rfl) (fun _ _ _ h => h) (Or.inl ⟨by kernel_rfl, ?hyb1V30⟩) (by assumption) ?restb1V30; (case hyb1V30 => ((intro w' hSw); (try dsimp only at hSw); go_simp; (try with_reducible rfl))); try go_frame)
            (refine wpAnyH_take (i := 31) (v := ?vb1V31) (by simp only [List.getElem?_toArray, List.getElem?_cons_succ, List.getElem?_cons_zero]; rfl) (by kernel_rfl) (by kernel_rfl) (by kernel_rfl) (fun _ _ _ h => h) (Or.inl ⟨by kernel_rfl, ?hyb1V31⟩) (by assumption) ?restb1V31; (case hyb1V31 => ((intro w' hSw); (try dsimp only at hSw); go_simp; (try with_reducible rfl))); try go_frame)
            (refine wpAnyH_take (i := 32) (v := undef) (by simp only [List.getElem?_toArray, List.getElem?_cons_succ, List.getElem?_cons_zero]; rfl) (by kernel_rfl) (by kernel_rfl) (by kernel_rfl) (fun _ _ _ h => h) (Or.inr ⟨by kernel_rfl, rfl⟩) (by assumption) ?_; try go_frame)
            (refine wpAnyH_take (i := 33) (v := undef) (by simp only [List.getElem?_toArray, List.getElem?_cons_succ, List.getElem?_cons_zero]; rfl) (by kernel_rfl) (by kernel_rfl) (by kernel_rfl) (fun _ _ _ h => h) (Or.inr ⟨by kernel_rfl, rfl⟩) (by assumption) ?_; try go_frame)
            (refine wpAnyH_take (i := 34) (v := undef) (by simp only [List.getElem?_toArray, List.getElem?_cons_succ, List.getElem?_cons_zero]; rfl) (by kernel_rfl) (by kernel_rfl) (by kernel_rfl) (fun _ _ _ h => h) (Or.inr ⟨by kernel_rfl, rfl⟩) (by assumption) ?_; try go_frame)
            (refine wpAnyH_take (i := 35) (v := undef) (by simp only [List.getElem?_toArray, List.getElem?_cons_succ, List.getElem?_cons_zero]; rfl) (by kernel_rfl) (by kernel_rfl) (by kernel_rfl) (fun _ _ _ h => h) (Or.inr ⟨by kernel_rfl, rfl⟩) (by assumption) ?_; try go_frame)
            (refine wpAnyH_take (i := 36) (v := undef) (by simp only [List.getElem?_toArray, List.getElem?_cons_succ, List.getElem?_cons_zero]; rfl) (by kernel_rfl) (by kernel_rfl) (by kernel_rfl) (fun _ _ _ h => h) (Or.inr ⟨by kernel_rfl, rfl⟩) (by assumption) ?_; try go_frame)
            (refine wpAnyH_take (i := 37) (v := undef) (by simp only [List.getElem?_toArray, List.getElem?_cons_succ, List.getElem?_cons_zero]; rfl) (by kernel_rfl) (by kernel_rfl) (by kernel_rfl) (fun _ _ _ h => h) (Or.inr ⟨by kernel_rfl, rfl⟩) (by assumption) ?_; try go_frame)
            (refine wpAnyH_take (i := 38) (v := undef) (by simp only [List.getElem?_toArray, List.getElem?_cons_succ, List.getElem?_cons_zero]; rfl) (by kernel_rfl) (by kernel_rfl) (by kernel_rfl) (fun _ _ _ h => h) (Or.inr ⟨by kernel_rfl, rfl⟩) (by assumption) ?_; try go_frame)
            (refine wpAnyH_take (i := 39) (v := undef) (by simp only [List.getElem?_toArray, List.getElem?_cons_succ, List.getElem?_cons_zero]; rfl) (by kernel_rfl) (by kernel_rfl) (by kernel_rfl) (fun _ _ _ h => h) (Or.inr ⟨by kernel_rfl, rfl⟩) (by assumption) ?_; try go_frame)
            (refine wpAnyH_take (i := 40) (v := undef) (by simp only [List.getElem?_toArray, List.getElem?_cons_succ, List.getElem?_cons_zero]; rfl) (by kernel_rfl) (by kernel_rfl) (by kernel_rfl) (fun _ _ _ h => h) (Or.inr ⟨by kernel_rfl, rfl⟩) (by assumption) ?_; try go_frame)
            (refine wpAnyH_take (i := 41) (v := undef) (by simp only [List.getElem?_toArray, List.getElem?_cons_succ, List.getElem?_cons_zero]; rfl) (by kernel_rfl) (by kernel_rfl) (by kernel_rfl) (fun _ _ _ h => h) (Or.inr ⟨by kernel_rfl, rfl⟩) (by assumption) ?_; try go_frame)
            (refine wpAnyH_take (i := 42) (v := ?vb1V42) (by simp only [List.getElem?_toArray, List.getElem?_cons_succ, List.getElem?_cons_zero]; rfl) (by kernel_rfl) (by kernel_rfl) (by kernel_rfl) (fun _ _ _ h => h) (Or.inl ⟨by kernel_rfl, ?hyb1V42⟩) (by assumption) ?restb1V42; (case hyb1V42 => ((intro w' hSw); (try dsimp only at hSw); go_simp; (try with_reducible rfl))); try go_frame)
            (refine wpAnyH_take (i := 43) (v := ?vb1V43) (by simp only [List.getElem?_toArray, List.getElem?_cons_succ, List.getElem?_cons_zero]; rfl) (by kernel_rfl) (by kernel_rfl) (by kernel_rfl) (fun _ _ _ h => h) (Or.inl ⟨by kernel_rfl, ?hyb1V43⟩) (by assumption) ?restb1V43; (case hyb1V43 => ((intro w' hSw); (try dsimp only at hSw); go_simp; (try with_reducible rfl))); try go_frame)
            refine wpAnyH_done (by kernel_rfl) ?_ _
            refine NoPanic.normal ?_
            go_wp2
            go_roundw
            case rel =>
              refine ⟨0 + 1, by omega, by go_num, ?_, blkF (hBelV _ (by assumption)) HRK.out, btF HBK.out (hBelV _ (by assumption))⟩
              rw [HSO.out, HAT.out]
              simp [HSK.out, HA.out]
            case measure => simp [intOf]; omega
          | false =>
            go_upto_region 4 with fail
            have hkeepV : ∀ w1 w2 : World, Below w1.heap.size w1 w2 → (w1.cell? ⟨w.heap.size, 6, none⟩ = some (.slice (some ⟨g, oo, none⟩) n c) ∧ w1.cell? ⟨w.heap.size, 0, none⟩ = some (.bool false) ∧ w1.cell? ⟨g, oo, none⟩ = some (.int .i64 t.id) ∧ Below wr.heap.size wr w1) → (w2.cell? ⟨w.heap.size, 6, none⟩ = some (.slice (some ⟨g, oo, none⟩) n c) ∧ w2.cell? ⟨w.heap.size, 0, none⟩ = some (.bool false) ∧ w2.cell? ⟨g, oo, none⟩ = some (.int .i64 t.id) ∧ Below wr.heap.size wr w2) := by
              rintro w1 w2 hb ⟨h0, h1, h2, hB⟩
              exact ⟨keepc hb h0, keepc hb h1, keepc hb h2, bt' hB hb⟩
            have hBelV : ∀ w' : World, (w'.cell? ⟨w.heap.size, 6, none⟩ = some (.slice (some ⟨g, oo, none⟩) n c) ∧ w'.cell? ⟨w.heap.size, 0, none⟩ = some (.bool false) ∧ w'.cell? ⟨g, oo, none⟩ = some (.int .i64 t.id) ∧ Below wr.heap.size wr w') → Below wr.heap.size wr w' := fun w' h => h.2.2.2
            have hV0 : wr.cell? ⟨w.heap.size, 6, none⟩ = some (.slice (some ⟨g, oo, none⟩) n c) ∧ wr.cell? ⟨w.heap.size, 0, none⟩ = some (.bool false) ∧ wr.cell? ⟨g, oo, none⟩ = some (.int .i64 t.id) ∧ Below wr.heap.size wr wr := ⟨k4, k0, c0, Below.refl _ _⟩
            refine wp_region_noPanic ?_
            refine wp_region_held_drew (S := fun w' => w'.cell? ⟨w.heap.size, 6, none⟩ = some (.slice (some ⟨g, oo, none⟩) n c) ∧ w'.cell? ⟨w.heap.size, 0, none⟩ = some (.bool false) ∧ w'.cell? ⟨g, oo, none⟩ = some (.int .i64 t.id) ∧ Below wr.heap.size wr w') (by kernel_rfl) ?_ (fun hHeld => ?_)
            · exact hkeepV _ _ ((Below.refl _ _).drew) hV0
            (refine wpAnyH_take (i := 0) (v := ?vb2V0) (by simp only [List.getElem?_toArray, List.getElem?_cons_zero]; rfl) (by kernel_rfl) (by kernel_rfl) (by kernel_rfl) (fun _ _ _ h => h) (Or.inl ⟨by kernel_rfl, ?hyb2V0⟩) (by assumption) ?restb2V0; (case hyb2V0 => ((intro w' hSw); (try dsimp only at hSw); go_simp; (try with_reducible rfl))); try go_frame)
            (refine wpAnyH_take (i := 1) (v := ?vb2V1) (by simp only [List.getElem?_toArray, List.getElem?_cons_succ, List.getElem?_cons_zero]; rfl) (by kernel_rfl) (by kernel_rfl) (by kernel_rfl) (fun _ _ _ h => h) (Or.inl ⟨by kernel_rfl, ?hyb2V1⟩) (by assumption) ?restb2V1; (case hyb2V1 => ((intro w' hSw); (try dsimp only at hSw); go_simp; (try with_reducible rfl))); try go_frame)
            (refine wpAnyH_take (i := 2) (v := ?vb2V2) (by simp only [List.getElem?_toArray, List.getElem?_cons_succ, List.getElem?_cons_zero]; rfl) (by kernel_rfl) (by kernel_rfl) (by kernel_rfl) (fun _ _ _ h => h) (Or.inl ⟨by kernel_rfl, ?hyb2V2⟩) (by assumption) ?restb2V2; (case hyb2V2 => ((intro w' hSw); (try dsimp only at hSw); go_simp; (try with_reducible rfl))); try go_frame)
            (refine wpAnyH_take (i := 3) (v := ?vb2V3) (by simp only [List.getElem?_toArray, List.getElem?_cons_succ, List.getElem?_cons_zero]; rfl) (by kernel_rfl) (by kernel_rfl) (by kernel_rfl) (fun _ _ _ h => h) (Or.inl ⟨by kernel_rfl, ?hyb2V3⟩) (by assumption) ?restb2V3; (case hyb2V3 => ((intro w' hSw); (try dsimp only at hSw); go_simp; (try with_reducible rfl))); try go_frame)
            (refine wpAnyH_take (i := 4) (v := .agg (smC t (.slice ah nh ch) (.slice ag ng cg)).toArray) (by simp only [List.getElem?_toArray, List.getElem?_cons_succ, List.getElem?_cons_zero]; rfl) (by kernel_rfl) (by kernel_rfl) (by kernel_rfl) (fun _ _ _ h => h) (yieldsIf_load_mid (by kernel_rfl) 70 _ (by rfl) g (oo + 0 * 12) (by rfl) (smC t (.slice ah nh ch) (.slice ag ng cg)) _ (fun w' h => rangeAt_below HRG.out (hBelV w' h)) Try.underlying70 (by rfl) infoSm) (by assumption) ?restb2V4; try go_frame)
            refine wpAnyH_ready (rs := [5]) (by kernel_rfl) (by simp) ?_
            refine AllReadyH.cons (by simp only [List.getElem?_toArray, List.getElem?_cons_succ, List.getElem?_cons_zero]; rfl) (fun K hK => ?_) AllReadyH.nil
            first | (go_at_call 37; refine (hst _ (HFH.out.below (hBelV _ (by assumption))) (HFG.out.below (hBelV _ (by assumption)))).mono ?_; rintro r wN ⟨rfl, hbN⟩) | (go_simp; (go_at_call 37; refine (hst _ (HFH.out.below (hBelV _ (by assumption))) (HFG.out.below (hBelV _ (by assumption)))).mono ?_; rintro r wN ⟨rfl, hbN⟩))
            try (go_wp2_with fail)
            refine hK.out _ _ ?_ (fun hHeld => ?_)
            · (try dsimp only); exact hkeepV _ _ hbN (by assumption)
            clear hK K
            try go_frame
            (refine wpAnyH_take (i := 6) (v := ?vb2V6) (by simp only [List.getElem?_toArray, List.getElem?_cons_succ, List.getElem?_cons_zero]; rfl) (by kernel_rfl) (by kernel_rfl) (by kernel_rfl) (fun _ _ _ h => h) (Or.inl ⟨by kernel_rfl, ?hyb2V6⟩) (by assumption) ?restb2V6; (case hyb2V6 => ((intro w' hSw); (try dsimp only at hSw); go_simp; (try with_reducible rfl))); try go_frame)
            (refine wpAnyH_take (i := 7) (v := ?vb2V7) (by simp only [List.getElem?_toArray, List.getElem?_cons_succ, List.getElem?_cons_zero]; rfl) (by kernel_rfl) (by kernel_rfl) (by kernel_rfl) (fun _ _ _ h => h) (Or.inl ⟨by kernel_rfl, ?hyb2V7⟩) (by assumption) ?restb2V7; (case hyb2V7 => ((intro w' hSw); (try dsimp only at hSw); go_simp; (try with_reducible rfl))); try go_frame)
            (refine wpAnyH_take (i := 8) (v := ?vb2V8) (by simp only [List.getElem?_toArray, List.getElem?_cons_succ, List.getElem?_cons_zero]; rfl) (by kernel_rfl) (by kernel_rfl) (by kernel_rfl) (fun _ _ _ h => h) (Or.inl ⟨by kernel_rfl, ?hyb2V8⟩) (by assumption) ?restb2V8; (case hyb2V8 => ((intro w' hSw); (try dsimp only at hSw); go_simp; (try with_reducible rfl))); try go_frame)
            (refine wpAnyH_take (i := 9) (v := ?vb2V9) (by simp only [List.getElem?_toArray, List.getElem?_cons_succ, List.getElem?_cons_zero]; rfl) (by kernel_rfl) (by kernel_rfl) (by kernel_rfl) (fun _ _ _ h => h) (Or.inl ⟨by kernel_rfl, ?hyb2V9⟩) (by assumption) ?restb2V9; (case hyb2V9 => ((intro w' hSw); (try dsimp only at hSw); go_simp; (try with_reducible rfl))); try go_frame)
            (refine wpAnyH_take (i := 10) (v := ?vb2V10) (by simp only [List.getElem?_toArray, List.getElem?_cons_succ, List.getElem?_cons_zero]; rfl) (by kernel_rfl) (by kernel_rfl) (by kernel_rfl) (fun _ _ _ h => h) (Or.inl ⟨by kernel_rfl, ?hyb2V10⟩) (by assumption) ?restb2V10; (case hyb2V10 => ((intro w' hSw); (try dsimp only at hSw); go_simp; (try with_reducible rfl))); try go_frame)
            (refine wpAnyH_take (i := 11) (v := undef) (by simp only [List.getElem?_toArray, List.getElem?_cons_succ, List.getElem?_cons_zero]; rfl) (by kernel_rfl) (by kernel_rfl) (by kernel_rfl) (fun _ _ _ h => h) (Or.inr ⟨by kernel_rfl, rfl⟩) (by assumption) ?_; try go_frame)
            (refine wpAnyH_take (i := 12) (v := undef) (by simp only [List.getElem?_toArray, List.getElem?_cons_succ, List.getElem?_cons_zero]; rfl) (by kernel_rfl) (by kernel_rfl) (by kernel_rfl) (fun _ _ _ h => h) (Or.inr ⟨by kernel_rfl, rfl⟩) (by assumption) ?_; try go_frame)
            (refine wpAnyH_take (i := 13) (v := undef) (by simp only [List.getElem?_toArray, List.getElem?_cons_succ, List.getElem?_cons_zero]; rfl) (by kernel_rfl) (by kernel_rfl) (by kernel_rfl) (fun _ _ _ h => h) (Or.inr ⟨by kernel_rfl, rfl⟩) (by assumption) ?_; try go_frame)
            (refine wpAnyH_take (i := 14) (v := undef) (by simp only [List.getElem?_toArray, List.getElem?_cons_succ, List.getElem?_cons_zero]; rfl) (by kernel_rfl) (by kernel_rfl) (by kernel_rfl) (fun _ _ _ h => h) (Or.inr ⟨by kernel_rfl, rfl⟩) (by assumption) ?_; try go_frame)
            (refine wpAnyH_take (i := 15) (v := undef) (by simp only [List.getElem?_toArray, List.getElem?_cons_succ, List.getElem?_cons_zero]; rfl) (by kernel_rfl) (by kernel_rfl) (by kernel_rfl) (fun _ _ _ h => h) (Or.inr ⟨by kernel_rfl, rfl⟩) (by assumption) ?_; try go_frame)
            (refine wpAnyH_take (i := 16) (v := undef) (by simp only [List.getElem?_toArray, List.getElem?_cons_succ, List.getElem?_cons_zero]; rfl) (by kernel_rfl) (by kernel_rfl) (by kernel_rfl) (fun _ _ _ h => h) (Or.inr ⟨by kernel_rfl, rfl⟩) (by assumption) ?_; try go_frame)
            (refine wpAnyH_take (i := 17) (v := undef) (by simp only [List.getElem?_toArray, List.getElem?_cons_succ, List.getElem?_cons_zero]; rfl) (by kernel_rfl) (by kernel_rfl) (by kernel_rfl) (fun _ _ _ h => h) (Or.inr ⟨by kernel_rfl, rfl⟩) (by assumption) ?_; try go_frame)
            (refine wpAnyH_take (i := 18) (v := undef) (by simp only [List.getElem?_toArray, List.getElem?_cons_succ, List.getElem?_cons_zero]; rfl) (by kernel_rfl) (by kernel_rfl) (by kernel_rfl) (fun _ _ _ h => h) (Or.inr ⟨by kernel_rfl, rfl⟩) (by assumption) ?_; try go_frame)
            (refine wpAnyH_take (i := 19) (v := undef) (by simp only [List.getElem?_toArray, List.getElem?_cons_succ, List.getElem?_cons_zero]; rfl) (by kernel_rfl) (by kernel_rfl) (by kernel_rfl) (fun _ _ _ h => h) (Or.inr ⟨by kernel_rfl, rfl⟩) (by assumption) ?_; try go_frame)
            (refine wpAnyH_take (i := 20) (v := undef) (by simp only [List.getElem?_toArray, List.getElem?_cons_succ, List.getElem?_cons_zero]; rfl) (by kernel_rfl) (by kernel_rfl) (by kernel_rfl) (fun _ _ _ h => h) (Or.inr ⟨by kernel_rfl, rfl⟩) (by assumption) ?_; try go_frame)
            (refine wpAnyH_take (i := 21) (v := undef) (by simp only [List.getElem?_toArray, List.getElem?_cons_succ, List.getElem?_cons_zero]; rfl) (by kernel_rfl) (by kernel_rfl) (by kernel_rfl) (fun _ _ _ h => h) (Or.inr ⟨by kernel_rfl, rfl⟩) (by assumption) ?_; try go_frame)
            (refine wpAnyH_take (i := 22) (v := undef) (by simp only [List.getElem?_toArray, List.getElem?_cons_succ, List.getElem?_cons_zero]; rfl) (by kernel_rfl) (by kernel_rfl) (by kernel_rfl) (fun _ _ _ h => h) (Or.inr ⟨by kernel_rfl, rfl⟩) (by assumption) ?_; try go_frame)
            (refine wpAnyH_take (i := 23) (v := undef) (by simp only [List.getElem?_toArray, List.getElem?_cons_succ, List.getElem?_cons_zero]; rfl) (by kernel_rfl) (by kernel_rfl) (by kernel_rfl) (fun _ _ _ h => h) (Or.inr ⟨by kernel_rfl, rfl⟩) (by assumption) ?_; try go_frame)
            (refine wpAnyH_take (i := 24) (v := undef) (by simp only [List.getElem?_toArray, List.getElem?_cons_succ, List.getElem?_cons_zero]; rfl) (by kernel_rfl) (by kernel_rfl) (by kernel_rfl) (fun _ _ _ h => h) (Or.inr ⟨by kernel_rfl, rfl⟩) (by assumption) ?_; try go_frame)
            (refine wpAnyH_take (i := 25) (v := ?vb2V25) (by simp only [List.getElem?_toArray, List.getElem?_cons_succ, List.getElem?_cons_zero]; rfl) (by kernel_rfl) (by kernel_rfl) (by kernel_rfl) (fun _ _ _ h => h) (Or.inl ⟨by kernel_rfl, ?hyb2V25⟩) (by assumption) ?restb2V25; (case hyb2V25 => ((intro w' hSw); (try dsimp only at hSw); go_simp; (try with_reducible rfl))); try go_frame)
            (refine wpAnyH_take (i := 26) (v := ?vb2V26) (by simp only [List.getElem?_toArray, List.getElem?_cons_succ, List.getElem?_cons_zero]; rfl) (by kernel_rfl) (by kernel_rfl) (by kernel_rfl) (fun _ _ _ h => h) (Or.inl ⟨by kernel_rfl, ?hyb2V26⟩) (by assumption) ?restb2V26; (case hyb2V26 => ((intro w' hSw); (try dsimp only at hSw); go_simp; (try with_reducible rfl))); try go_frame)
            (refine wpAnyH_take (i := 27) (v := ?vb2V27) (by simp only [List.getElem?_toArray, List.getElem?_cons_succ, List.getElem?_cons_zero]; rfl) (by kernel_rfl) (by kernel_rfl) (by kernel_rfl) (fun _ _ _ h => h) (Or.inl ⟨by kernel_rfl, ?hyb2V27⟩) (by assumption) ?restb2V27; (case hyb2V27 => ((intro w' hSw); (try dsimp only at hSw); go_simp; (try with_reducible rfl))); try go_frame)
            (refine wpAnyH_take (i := 28) (v := ?vb2V28) (by simp only [List.getElem?_toArray, List.getElem?_cons_succ, List.getElem?_cons_zero]; rfl) (by kernel_rfl) (by kernel_rfl) (by kernel_rfl) (fun _ _ _ h => h) (Or.inl ⟨by kernel_rfl, ?hyb2V28⟩) (by assumption) ?restb2V28; (case hyb2V28 => ((intro w' hSw); (try dsimp only at hSw); go_simp; (try with_reducible rfl))); try go_frame)
            (refine wpAnyH_take (i := 29) (v := ?vb2V29) (by simp only [List.getElem?_toArray, List.getElem?_cons_succ, List.getElem?_cons_zero]; rfl) (by kernel_rfl) (by kernel_rfl) (by kernel_rfl) (fun _ _ _ h => h) (Or.inl ⟨by kernel_rfl, ?hyb2V29⟩) (by assumption) ?restb2V29; (case hyb2V29 => ((intro w' hSw); (try dsimp only at hSw); go_simp; (try with_reducible rfl))); try go_frame)
            (refine wpAnyH_take (i := 30) (v := ?vb2V30) (by simp only [List.getElem?_toArray, List.getElem?_cons_succ, List.getElem?_cons_zero]; rfl) (by kernel_rfl) (by kernel_rfl) (by kernel_rfl) (fun _ _ _ h => h) (Or.inl ⟨by kernel_rfl, ?hyb2V30⟩) (by assumption) ?restb2V30; (case hyb2V30 => ((intro w' hSw); (try dsimp only at hSw); go_simp; (try with_reducible rfl))); try go_frame)
            (refine wpAnyH_take (i := 31) (v := ?vb2V31) (by simp only [List.getElem?_toArray, List.getElem?_cons_succ, List.getElem?_cons_zero]; rfl) (by kernel_rfl) (by kernel_rfl) (by kernel_rfl) (fun _ _ _ h => h) (Or.inl ⟨by kernel_rfl, ?hyb2V31⟩) (by assumption) ?restb2V31; (case hyb2V31 => ((intro w' hSw); (try dsimp only at hSw); go_simp; (try with_reducible rfl))); try go_frame)
            (refine wpAnyH_take (i := 32) (v := ?vb2V32) (by simp only [List.getElem?_toArray, List.getElem?_cons_succ, List.getElem?_cons_zero]; rfl) (by kernel_rfl) (by kernel_rfl) (by kernel_rfl) (fun _ _ _ h => h) (Or.inl ⟨by kernel_rfl, ?hyb2V32⟩) (by assumption) ?restb2V32; (case hyb2V32 => ((intro w' hSw); (try dsimp only at hSw); go_simp; (try with_reducible rfl))); try go_frame)
            (refine wpAnyH_take (i := 33) (v := ?vb2V33) (by simp only [List.getElem?_toArray, List.getElem?_cons_succ, List.getElem?_cons_zero]; rfl) (by kernel_rfl) (by kernel_rfl) (by kernel_rfl) (fun _ _ _ h => h) (Or.inl ⟨by kernel_rfl, ?hyb2V33⟩) (by assumption) ?restb2V33; (case hyb2V33 => ((intro w' hSw); (try dsimp only at hSw); go_simp; (try with_reducible rfl))); try go_frame)
            (refine wpAnyH_take (i := 34) (v := ?vb2V34) (by simp only [List.getElem?_toArray, List.getElem?_cons_succ, List.getElem?_cons_zero]; rfl) (by kernel_rfl) (by kernel_rfl) (by kernel_rfl) (fun _ _ _ h => h) (Or.inl ⟨by kernel_rfl, ?hyb2V34⟩) (by assumption) ?restb2V34; (case hyb2V34 => ((intro w' hSw); (try dsimp only at hSw); go_simp; (try with_reducible rfl))); try go_frame)
            (refine wpAnyH_take (i := 35) (v := ?vb2V35) (by simp only [List.getElem?_toArray, List.getElem?_cons_succ, List.getElem?_cons_zero]; rfl) (by kernel_rfl) (by kernel_rfl) (by kernel_rfl) (fun _ _ _ h => h) (Or.inl ⟨by kernel_rfl, ?hyb2V35⟩) (by assumption) ?restb2V35; (case hyb2V35 => ((intro w' hSw); (try dsimp only at hSw); go_simp; (try with_reducible rfl))); try go_frame)
            (refine wpAnyH_take (i := 36) (v := ?vb2V36) (by simp only [List.getElem?_toArray, List.getElem?_cons_succ, List.getElem?_cons_zero]; rfl) (by kernel_rfl) (by kernel_rfl) (by kernel_rfl) (fun _ _ _ h => h) (Or.inl ⟨by kernel_rfl, ?hyb2V36⟩) (by assumption) ?restb2V36; (case hyb2V36 => ((intro w' hSw); (try dsimp only at hSw); go_simp; (try with_reducible rfl))); try go_frame)
            (refine wpAnyH_take (i := 37) (v := ?vb2V37) (by simp only [List.getElem?_toArray, List.getElem?_cons_succ, List.getElem?_cons_zero]; rfl) (by kernel_rfl) (by kernel_rfl) (by kernel_rfl) (fun _ _ _ h => h) (Or.inl ⟨by kernel_rfl, ?hyb2V37⟩) (by assumption) ?restb2V37; (case hyb2V37 => ((intro w' hSw); (try dsimp only at hSw); go_simp; (try with_reducible rfl))); try go_frame)
            (refine wpAnyH_take (i := 38) (v := ?vb2V38) (by simp only [List.getElem?_toArray, List.getElem?_cons_succ, List.getElem?_cons_zero]; rfl) (by kernel_rfl) (by kernel_rfl) (by kernel_rfl) (fun _ _ _ h => h) (Or.inl ⟨by kernel_rfl, ?hyb2V38⟩) (by assumption) ?restb2V38; (case hyb2V38 => ((intro w' hSw); (try dsimp only at hSw); go_simp; (try with_reducible rfl))); try go_frame)
            (refine wpAnyH_take (i := 39) (v := ?vb2V39) (by simp only [List.getElem?_toArray, List.getElem?_cons_succ, List.getElem?_cons_zero]; rfl) (by kernel_rfl) (by kernel_rfl) (by kernel_rfl) (fun _ _ _ h => h) (Or.inl ⟨by kernel_rfl, ?hyb2V39⟩) (by assumption) ?restb2V39; (case hyb2V39 => ((intro w' hSw); (try dsimp only at hSw); go_simp; (try with_reducible rfl))); try go_frame)
            (refine wpAnyH_take (i := 40) (v := ?vb2V40) (by simp only [List.getElem?_toArray, List.getElem?_cons_succ, List.getElem?_cons_zero]; rfl) (by kernel_rfl) (by kernel_rfl) (by kernel_rfl) (fun _ _ _ h => h) (Or.inl ⟨by kernel_rfl, ?hyb2V40⟩) (by assumption) ?restb2V40; (case hyb2V40 => ((intro w' hSw); (try dsimp only at hSw); go_simp; (try with_reducible rfl))); try go_frame)
            (refine wpAnyH_take (i := 41) (v := ?vb2V41) (by simp only [List.getElem?_toArray, List.getElem?_cons_succ, List.getElem?_cons_zero]; rfl) (by kernel_rfl) (by kernel_rfl) (by kernel_rfl) (fun _ _ _ h => h) (Or.inl ⟨by kernel_rfl, ?hyb2V41⟩) (by assumption) ?restb2V41; (case hyb2V41 => ((intro w' hSw); (try dsimp only at hSw); go_simp; (try with_reducible rfl))); try go_frame)
            (refine wpAnyH_take (i := 42) (v := ?vb2V42) (by simp only [List.getElem?_toArray, List.getElem?_cons_succ, List.getElem?_cons_zero]; rfl) (by kernel_rfl) (by kernel_rfl) (by kernel_rfl) (fun _ _ _ h => h) (Or.inl ⟨by kernel_rfl, ?hyb2V42⟩) (by assumption) ?restb2V42; (case hyb2V42 => ((intro w' hSw); (try dsimp only at hSw); go_simp; (try with_reducible rfl))); try go_frame)
            (refine wpAnyH_take (i := 43) (v := ?vb2V43) (by simp only [List.getElem?_toArray, List.getElem?_cons_succ, List.getElem?_cons_zero]; rfl) (by kernel_rfl) (by kernel_rfl) (by kernel_rfl) (fun _ _ _ h => h) (Or.inl ⟨by kernel_rfl, ?hyb2V43⟩) (by assumption) ?restb2V43; (case hyb2V43 => ((intro w' hSw); (try dsimp only at hSw); go_simp; (try with_reducible rfl))); try go_frame)
            refine wpAnyH_done (by kernel_rfl) ?_ _
            refine NoPanic.normal ?_
            go_wp2
            all_goals
              first
                | (go_roundw
                   case rel =>
                     have hq : t.id = 1 := by simpa using ‹(t.id != 1) = false›
                     refine ⟨0 + 1, by omega, by go_num, ?_, blkF (hBelV _ (by assumption)) HRK.out, btF HBK.out (hBelV _ (by assumption))⟩
                     rw [HSO.out, HAT.out]
                     simp [HSK.out, HA.out, hq]
                   case measure => simp [intOf]; omega)
                | (go_ret
                   have hq : ¬ t.id = 1 := by simpa using ‹(t.id != 1) = true›
                   refine ⟨?_, btF HBK.out (hBelV _ (by assumption))⟩
                   have hend : edOk e = false := by
                     unfold edOk
                     rw [HSO.out, HAT.out]
                     simp [HSK.out, HA.out, hq]
                   rw [hend]
                   rfl)
        | succ j =>
          obtain ⟨p, hp⟩ : ∃ p, e.sts[j]? = some p := ⟨_, List.getElem?_eq_getElem (by rw [HN.out]; omega)⟩
          obtain ⟨bh, mh, dh, bg, mg, dg, _, _, hcp⟩ := HSM.out.at j p hp
          have HRP : Hid _ := rangeAt_below (HRW.out.range (ys := smC p (.slice bh mh dh) (.slice bg mg dg)) hcp) HBK.out
          have c1 := HRP.out 0 (.int .i64 p.id) rfl
          rw [Nat.add_zero] at c1
          have HP : Hid (pid e.sts (j + 1) = p.id) := by show (match e.sts[j]? with | none => 0 | some s => s.id) = p.id; rw [hp]
          have HRP2 := HRP
          have hjn : (j : Int) < n := by omega
          have hj0 : (0 : Int) ≤ j := by omega
          have hlt2 : (j : Int) + 1 < n := by omega
          have hj1 : (0 : Int) ≤ (j : Int) + 1 := by omega
          have hw0 : IntKind.i64.wrap (j : Int) = (j : Int) := by rw [IntKind.wrap_i64]; omega
          clear hcp hp HRP2
          by_cases hid : t.id ≤ p.id
          · have HID : Hid (t.id ≤ p.id) := hid
            go_upto_region 4 with fail
            have hkeepV : ∀ w1 w2 : World, Below w1.heap.size w1 w2 → (w1.cell? ⟨w.heap.size, 6, none⟩ = some (.slice (some ⟨g, oo, none⟩) n c) ∧ w1.cell? ⟨w.heap.size, 0, none⟩ = some (.bool e.ans) ∧ w1.cell? ⟨g, oo + (j + 1) * 12, none⟩ = some (.int .i64 t.id) ∧ w1.cell? ⟨g, oo + j * 12, none⟩ = some (.int .i64 p.id) ∧ Below wr.heap.size wr w1) → (w2.cell? ⟨w.heap.size, 6, none⟩ = some (.slice (some ⟨g, oo, none⟩) n c) ∧ w2.cell? ⟨w.heap.size, 0, none⟩ = some (.bool e.ans) ∧ w2.cell? ⟨g, oo + (j + 1) * 12, none⟩ = some (.int .i64 t.id) ∧ w2.cell? ⟨g, oo + j * 12, none⟩ = some (.int .i64 p.id) ∧ Below wr.heap.size wr w2) := by
              rintro w1 w2 hb ⟨h0, h1, h2, h3, hB⟩
              exact ⟨keepc hb h0, keepc hb h1, keepc hb h2, keepc hb h3, bt' hB hb⟩
            have hBelV : ∀ w' : World, (w'.cell? ⟨w.heap.size, 6, none⟩ = some (.slice (some ⟨g, oo, none⟩) n c) ∧ w'.cell? ⟨w.heap.size, 0, none⟩ = some (.bool e.ans) ∧ w'.cell? ⟨g, oo + (j + 1) * 12, none⟩ = some (.int .i64 t.id) ∧ w'.cell? ⟨g, oo + j * 12, none⟩ = some (.int .i64 p.id) ∧ Below wr.heap.size wr w') → Below wr.heap.size wr w' := fun w' h => h.2.2.2.2
            have hV0 : wr.cell? ⟨w.heap.size, 6, none⟩ = some (.slice (some ⟨g, oo, none⟩) n c) ∧ wr.cell? ⟨w.heap.size, 0, none⟩ = some (.bool e.ans) ∧ wr.cell? ⟨g, oo + (j + 1) * 12, none⟩ = some (.int .i64 t.id) ∧ wr.cell? ⟨g, oo + j * 12, none⟩ = some (.int .i64 p.id) ∧ Below wr.heap.size wr wr := ⟨k4, k0, c0, c1, Below.refl _ _⟩
            refine wp_region_noPanic ?_
            refine wp_region_held_drew (S := fun w' => w'.cell? ⟨w.heap.size, 6, none⟩ = some (.slice (some ⟨g, oo, none⟩) n c) ∧ w'.cell? ⟨w.heap.size, 0, none⟩ = some (.bool e.ans) ∧ w'.cell? ⟨g, oo + (j + 1) * 12, none⟩ = some (.int .i64 t.id) ∧ w'.cell? ⟨g, oo + j * 12, none⟩ = some (.int .i64 p.id) ∧ Below wr.heap.size wr w') (by kernel_rfl) ?_ (fun hHeld => ?_)
            · exact hkeepV _ _ ((Below.refl _ _).drew) hV0
            (refine wpAnyH_take (i := 0) (v := ?vc0V0) (by simp only [List.getElem?_toArray, List.getElem?_cons_zero]; rfl) (by kernel_rfl) (by kernel_rfl) (by kernel_rfl) (fun _ _ _ h => h) (Or.inl ⟨by kernel_rfl, ?hyc0V0⟩) (by assumption) ?restc0V0; (case hyc0V0 => ((intro w' hSw); (try dsimp only at hSw); go_simp; (try with_reducible rfl))); try go_frame)
            (refine wpAnyH_take (i := 1) (v := ?vc0V1) (by simp only [List.getElem?_toArray, List.getElem?_cons_succ, List.getElem?_cons_zero]; rfl) (by kernel_rfl) (by kernel_rfl) (by kernel_rfl) (fun _ _ _ h => h) (Or.inl ⟨by kernel_rfl, ?hyc0V1⟩) (by assumption) ?restc0V1; (case hyc0V1 => ((intro w' hSw); (try dsimp only at hSw); go_simp; (try with_reducible rfl))); try go_frame)
            (refine wpAnyH_take (i := 2) (v := ?vc0V2) (by simp only [List.getElem?_toArray, List.getElem?_cons_succ, List.getElem?_cons_zero]; rfl) (by kernel_rfl) (by kernel_rfl) (by kernel_rfl) (fun _ _ _ h => h) (Or.inl ⟨by kernel_rfl, ?hyc0V2⟩) (by assumption) ?restc0V2; (case hyc0V2 => ((intro w' hSw); (try dsimp only at hSw); go_simp; (try with_reducible rfl))); try go_frame)
            (refine wpAnyH_take (i := 3) (v := ?vc0V3) (by simp only [List.getElem?_toArray, List.getElem?_cons_succ, List.getElem?_cons_zero]; rfl) (by kernel_rfl) (by kernel_rfl) (by kernel_rfl) (fun _ _ _ h => h) (Or.inl ⟨by kernel_rfl, ?hyc0V3⟩) (by assumption) ?restc0V3; (case hyc0V3 => ((intro w' hSw); (try dsimp only at hSw); go_simp; (try with_reducible rfl))); try go_frame)
            (refine wpAnyH_take (i := 4) (v := .agg (smC t (.slice ah nh ch) (.slice ag ng cg)).toArray) (by simp only [List.getElem?_toArray, List.getElem?_cons_succ, List.getElem?_cons_zero]; rfl) (by kernel_rfl) (by kernel_rfl) (by kernel_rfl) (fun _ _ _ h => h) (yieldsIf_load_mid (by kernel_rfl) 70 _ (by rfl) g (oo + (j + 1) * 12) (by rfl) (smC t (.slice ah nh ch) (.slice ag ng cg)) _ (fun w' h => rangeAt_below HRG.out (hBelV w' h)) Try.underlying70 (by rfl) infoSm) (by assumption) ?restc0V4; try go_frame)
            refine wpAnyH_ready (rs := [5]) (by kernel_rfl) (by simp) ?_
            refine AllReadyH.cons (by simp only [List.getElem?_toArray, List.getElem?_cons_succ, List.getElem?_cons_zero]; rfl) (fun K hK => ?_) AllReadyH.nil
            first | (go_at_call 37; refine (hst _ (HFH.out.below (hBelV _ (by assumption))) (HFG.out.below (hBelV _ (by assumption)))).mono ?_; rintro r wN ⟨rfl, hbN⟩) | (go_simp; (go_at_call 37; refine (hst _ (HFH.out.below (hBelV _ (by assumption))) (HFG.out.below (hBelV _ (by assumption)))).mono ?_; rintro r wN ⟨rfl, hbN⟩))
            try (go_wp2_with fail)
            refine hK.out _ _ ?_ (fun hHeld => ?_)
            · (try dsimp only); exact hkeepV _ _ hbN (by assumption)
            clear hK K
            try go_frame
            (refine wpAnyH_take (i := 6) (v := ?vc0V6) (by simp only [List.getElem?_toArray, List.getElem?_cons_succ, List.getElem?_cons_zero]; rfl) (by kernel_rfl) (by kernel_rfl) (by kernel_rfl) (fun _ _ _ h => h) (Or.inl ⟨by kernel_rfl, ?hyc0V6⟩) (by assumption) ?restc0V6; (case hyc0V6 => ((intro w' hSw); (try dsimp only at hSw); go_simp; (try with_reducible rfl))); try go_frame)
            (refine wpAnyH_take (i := 7) (v := ?vc0V7) (by simp only [List.getElem?_toArray, List.getElem?_cons_succ, List.getElem?_cons_zero]; rfl) (by kernel_rfl) (by kernel_rfl) (by kernel_rfl) (fun _ _ _ h => h) (Or.inl ⟨by kernel_rfl, ?hyc0V7⟩) (by assumption) ?restc0V7; (case hyc0V7 => ((intro w' hSw); (try dsimp only at hSw); go_simp; (try with_reducible rfl))); try go_frame)
            (refine wpAnyH_take (i := 8) (v := ?vc0V8) (by simp only [List.getElem?_toArray, List.getElem?_cons_succ, List.getElem?_cons_zero]; rfl) (by kernel_rfl) (by kernel_rfl) (by kernel_rfl) (fun _ _ _ h => h) (Or.inl ⟨by kernel_rfl, ?hyc0V8⟩) (by assumption) ?restc0V8; (case hyc0V8 => ((intro w' hSw); (try dsimp only at hSw); go_simp; (try with_reducible rfl))); try go_frame)
            (refine wpAnyH_take (i := 9) (v := ?vc0V9) (by simp only [List.getElem?_toArray, List.getElem?_cons_succ, List.getElem?_cons_zero]; rfl) (by kernel_rfl) (by kernel_rfl) (by kernel_rfl) (fun _ _ _ h => h) (Or.inl ⟨by kernel_rfl, ?hyc0V9⟩) (by assumption) ?restc0V9; (case hyc0V9 => ((intro w' hSw); (try dsimp only at hSw); go_simp; (try with_reducible rfl))); try go_frame)
            (refine wpAnyH_take (i := 10) (v := ?vc0V10) (by simp only [List.getElem?_toArray, List.getElem?_cons_succ, List.getElem?_cons_zero]; rfl) (by kernel_rfl) (by kernel_rfl) (by kernel_rfl) (fun _ _ _ h => h) (Or.inl ⟨by kernel_rfl, ?hyc0V10⟩) (by assumption) ?restc0V10; (case hyc0V10 => ((intro w' hSw); (try dsimp only at hSw); go_simp; (try with_reducible rfl))); try go_frame)
            (refine wpAnyH_take (i := 11) (v := ?vc0V11) (by simp only [List.getElem?_toArray, List.getElem?_cons_succ, List.getElem?_cons_zero]; rfl) (by kernel_rfl) (by kernel_rfl) (by kernel_rfl) (fun _ _ _ h => h) (Or.inl ⟨by kernel_rfl, ?hyc0V11⟩) (by assumption) ?restc0V11; (case hyc0V11 => ((intro w' hSw); (try dsimp only at hSw); go_simp; (try with_reducible rfl))); try go_frame)
            (refine wpAnyH_take (i := 12) (v := ?vc0V12) (by simp only [List.getElem?_toArray, List.getElem?_cons_succ, List.getElem?_cons_zero]; rfl) (by kernel_rfl) (by kernel_rfl) (by kernel_rfl) (fun _ _ _ h => h) (Or.inl ⟨by kernel_rfl, ?hyc0V12⟩) (by assumption) ?restc0V12; (case hyc0V12 => ((intro w' hSw); (try dsimp only at hSw); go_simp; (try with_reducible rfl))); try go_frame)
            (refine wpAnyH_take (i := 13) (v := ?vc0V13) (by simp only [List.getElem?_toArray, List.getElem?_cons_succ, List.getElem?_cons_zero]; rfl) (by kernel_rfl) (by kernel_rfl) (by kernel_rfl) (fun _ _ _ h => h) (Or.inl ⟨by kernel_rfl, ?hyc0V13⟩) (by assumption) ?restc0V13; (case hyc0V13 => ((intro w' hSw); (try dsimp only at hSw); go_simp; (try with_reducible rfl))); try go_frame)
            (refine wpAnyH_take (i := 14) (v := ?vc0V14) (by simp only [List.getElem?_toArray, List.getElem?_cons_succ, List.getElem?_cons_zero]; rfl) (by kernel_rfl) (by kernel_rfl) (by kernel_rfl) (fun _ _ _ h => h) (Or.inl ⟨by kernel_rfl, ?hyc0V14⟩) (by assumption) ?restc0V14; (case hyc0V14 => ((intro w' hSw); (try dsimp only at hSw); go_simp; (try with_reducible rfl))); try go_frame)
            (refine wpAnyH_take (i := 15) (v := ?vc0V15) (by simp only [List.getElem?_toArray, List.getElem?_cons_succ, List.getElem?_cons_zero]; rfl) (by kernel_rfl) (by kernel_rfl) (by kernel_rfl) (fun _ _ _ h => h) (Or.inl ⟨by kernel_rfl, ?hyc0V15⟩) (by assumption) ?restc0V15; (case hyc0V15 => ((intro w' hSw); (try dsimp only at hSw); go_simp; (try with_reducible rfl))); try go_frame)
            (refine wpAnyH_take (i := 16) (v := ?vc0V16) (by simp only [List.getElem?_toArray, List.getElem?_cons_succ, List.getElem?_cons_zero]; rfl) (by kernel_rfl) (by kernel_rfl) (by kernel_rfl) (fun _ _ _ h => h) (Or.inl ⟨by kernel_rfl, ?hyc0V16⟩) (by assumption) ?restc0V16; (case hyc0V16 => ((intro w' hSw); (try dsimp only at hSw); go_simp; (try with_reducible rfl))); try go_frame)
            (refine wpAnyH_take (i := 17) (v := ?vc0V17) (by simp only [List.getElem?_toArray, List.getElem?_cons_succ, List.getElem?_cons_zero]; rfl) (by kernel_rfl) (by kernel_rfl) (by kernel_rfl) (fun _ _ _ h => h) (Or.inl ⟨by kernel_rfl, ?hyc0V17⟩) (by assumption) ?restc0V17; (case hyc0V17 => ((intro w' hSw); (try dsimp only at hSw); go_simp; (try with_reducible rfl))); try go_frame)
            (refine wpAnyH_take (i := 18) (v := ?vc0V18) (by simp only [List.getElem?_toArray, List.getElem?_cons_succ, List.getElem?_cons_zero]; rfl) (by kernel_rfl) (by kernel_rfl) (by kernel_rfl) (fun _ _ _ h => h) (Or.inl ⟨by kernel_rfl, ?hyc0V18⟩) (by assumption) ?restc0V18; (case hyc0V18 => ((intro w' hSw); (try dsimp only at hSw); go_simp; (try with_reducible rfl))); try go_frame)
            (refine wpAnyH_take (i := 19) (v := ?vc0V19) (by simp only [List.getElem?_toArray, List.getElem?_cons_succ, List.getElem?_cons_zero]; rfl) (by kernel_rfl) (by kernel_rfl) (by kernel_rfl) (fun _ _ _ h => h) (Or.inl ⟨by kernel_rfl, ?hyc0V19⟩) (by assumption) ?restc0V19; (case hyc0V19 => ((intro w' hSw); (try dsimp only at hSw); go_simp; (try with_reducible rfl))); try go_frame)
            (refine wpAnyH_take (i := 20) (v := ?vc0V20) (by simp only [List.getElem?_toArray, List.getElem?_cons_succ, List.getElem?_cons_zero]; rfl) (by kernel_rfl) (by kernel_rfl) (by kernel_rfl) (fun _ _ _ h => h) (Or.inl ⟨by kernel_rfl, ?hyc0V20⟩) (by assumption) ?restc0V20; (case hyc0V20 => ((intro w' hSw); (try dsimp only at hSw); go_simp; (try with_reducible rfl))); try go_frame)
            (refine wpAnyH_take (i := 21) (v := ?vc0V21) (by simp only [List.getElem?_toArray, List.getElem?_cons_succ, List.getElem?_cons_zero]; rfl) (by kernel_rfl) (by kernel_rfl) (by kernel_rfl) (fun _ _ _ h => h) (Or.inl ⟨by kernel_rfl, ?hyc0V21⟩) (by assumption) ?restc0V21; (case hyc0V21 => ((intro w' hSw); (try dsimp only at hSw); go_simp; (try with_reducible rfl))); try go_frame)
            (refine wpAnyH_take (i := 22) (v := ?vc0V22) (by simp only [List.getElem?_toArray, List.getElem?_cons_succ, List.getElem?_cons_zero]; rfl) (by kernel_rfl) (by kernel_rfl) (by kernel_rfl) (fun _ _ _ h => h) (Or.inl ⟨by kernel_rfl, ?hyc0V22⟩) (by assumption) ?restc0V22; (case hyc0V22 => ((intro w' hSw); (try dsimp only at hSw); go_simp; (try with_reducible rfl))); try go_frame)
            (refine wpAnyH_take (i := 23) (v := ?vc0V23) (by simp only [List.getElem?_toArray, List.getElem?_cons_succ, List.getElem?_cons_zero]; rfl) (by kernel_rfl) (by kernel_rfl) (by kernel_rfl) (fun _ _ _ h => h) (Or.inl ⟨by kernel_rfl, ?hyc0V23⟩) (by assumption) ?restc0V23; (case hyc0V23 => ((intro w' hSw); (try dsimp only at hSw); go_simp; (try with_reducible rfl))); try go_frame)
            (refine wpAnyH_take (i := 24) (v := ?vc0V24) (by simp only [List.getElem?_toArray, List.getElem?_cons_succ, List.getElem?_cons_zero]; rfl) (by kernel_rfl) (by kernel_rfl) (by kernel_rfl) (fun _ _ _ h => h) (Or.inl ⟨by kernel_rfl, ?hyc0V24⟩) (by assumption) ?restc0V24; (case hyc0V24 => ((intro w' hSw); (try dsimp only at hSw); go_simp; (try with_reducible rfl))); try go_frame)
            (refine wpAnyH_take (i := 25) (v := ?vc0V25) (by simp only [List.getElem?_toArray, List.getElem?_cons_succ, List.getElem?_cons_zero]; rfl) (by kernel_rfl) (by kernel_rfl) (by kernel_rfl) (fun _ _ _ h => h) (Or.inl ⟨by kernel_rfl, ?hyc0V25⟩) (by assumption) ?restc0V25; (case hyc0V25 => ((intro w' hSw); (try dsimp only at hSw); go_simp; (try with_reducible rfl))); try go_frame)
            (refine wpAnyH_take (i := 26) (v := ?vc0V26) (by simp only [List.getElem?_toArray, List.getElem?_cons_succ, List.getElem?_cons_zero]; rfl) (by kernel_rfl) (by kernel_rfl) (by kernel_rfl) (fun _ _ _ h => h) (Or.inl ⟨by kernel_rfl, ?hyc0V26⟩) (by assumption) ?restc0V26; (case hyc0V26 => ((intro w' hSw); (try dsimp only at hSw); go_simp; (try with_reducible rfl))); try go_frame)
            (refine wpAnyH_take (i := 27) (v := ?vc0V27) (by simp only [List.getElem?_toArray, List.getElem?_cons_succ, List.getElem?_cons_zero]; rfl) (by kernel_rfl) (by kernel_rfl) (by kernel_rfl) (fun _ _ _ h => h) (Or.inl ⟨by kernel_rfl, ?hyc0V27⟩) (by assumption) ?restc0V27; (case hyc0V27 => ((intro w' hSw); (try dsimp only at hSw); go_simp; (try with_reducible rfl))); try go_frame)
            (refine wpAnyH_take (i := 28) (v := undef) (by simp only [List.getElem?_toArray, List.getElem?_cons_succ, List.getElem?_cons_zero]; rfl) (by kernel_rfl) (by kernel_rfl) (by kernel_rfl) (fun _ _ _ h => h) (Or.inr ⟨by kernel_rfl, rfl⟩) (by assumption) ?_; try go_frame)
            (refine wpAnyH_take (i := 29) (v := undef) (by simp only [List.getElem?_toArray, List.getElem?_cons_succ, List.getElem?_cons_zero]; rfl) (by kernel_rfl) (by kernel_rfl) (by kernel_rfl) (fun _ _ _ h => h) (Or.inr ⟨by kernel_rfl, rfl⟩) (by assumption) ?_; try go_frame)
            (refine wpAnyH_take (i := 30) (v := undef) (by simp only [List.getElem?_toArray, List.getElem?_cons_succ, List.getElem?_cons_zero]; rfl) (by kernel_rfl) (by kernel_rfl) (by kernel_rfl) (fun _ _ _ h => h) (Or.inr ⟨by kernel_rfl, rfl⟩) (by assumption) ?_; try go_frame)
            (refine wpAnyH_take (i := 31) (v := undef) (by simp only [List.getElem?_toArray, List.getElem?_cons_succ, List.getElem?_cons_zero]; rfl) (by kernel_rfl) (by kernel_rfl) (by kernel_rfl) (fun _ _ _ h => h) (Or.inr ⟨by kernel_rfl, rfl⟩) (by assumption) ?_; try go_frame)
            (refine wpAnyH_take (i := 32) (v := undef) (by simp only [List.getElem?_toArray, List.getElem?_cons_succ, List.getElem?_cons_zero]; rfl) (by kernel_rfl) (by kernel_rfl) (by kernel_rfl) (fun _ _ _ h => h) (Or.inr ⟨by kernel_rfl, rfl⟩) (by assumption) ?_; try go_frame)
            (refine wpAnyH_take (i := 33) (v := undef) (by simp only [List.getElem?_toArray, List.getElem?_cons_succ, List.getElem?_cons_zero]; rfl) (by kernel_rfl) (by kernel_rfl) (by kernel_rfl) (fun _ _ _ h => h) (Or.inr ⟨by kernel_rfl, rfl⟩) (by assumption) ?_; try go_frame)
            (refine wpAnyH_take (i := 34) (v := undef) (by simp only [List.getElem?_toArray, List.getElem?_cons_succ, List.getElem?_cons_zero]; rfl) (by kernel_rfl) (by kernel_rfl) (by kernel_rfl) (fun _ _ _ h => h) (Or.inr ⟨by kernel_rfl, rfl⟩) (by assumption) ?_; try go_frame)
            (refine wpAnyH_take (i := 35) (v := undef) (by simp only [List.getElem?_toArray, List.getElem?_cons_succ, List.getElem?_cons_zero]; rfl) (by kernel_rfl) (by kernel_rfl) (by kernel_rfl) (fun _ _ _ h => h) (Or.inr ⟨by kernel_rfl, rfl⟩) (by assumption) ?_; try go_frame)
            (refine wpAnyH_take (i := 36) (v := undef) (by simp only [List.getElem?_toArray, List.getElem?_cons_succ, List.getElem?_cons_zero]; rfl) (by kernel_rfl) (by kernel_rfl) (by kernel_rfl) (fun _ _ _ h => h) (Or.inr ⟨by kernel_rfl, rfl⟩) (by assumption) ?_; try go_frame)
            (refine wpAnyH_take (i := 37) (v := undef) (by simp only [List.getElem?_toArray, List.getElem?_cons_succ, List.getElem?_cons_zero]; rfl) (by kernel_rfl) (by kernel_rfl) (by kernel_rfl) (fun _ _ _ h => h) (Or.inr ⟨by kernel_rfl, rfl⟩) (by assumption) ?_; try go_frame)
            (refine wpAnyH_take (i := 38) (v := undef) (by simp only [List.getElem?_toArray, List.getElem?_cons_succ, List.getElem?_cons_zero]; rfl) (by kernel_rfl) (by kernel_rfl) (by kernel_rfl) (fun _ _ _ h => h) (Or.inr ⟨by kernel_rfl, rfl⟩) (by assumption) ?_; try go_frame)
            (refine wpAnyH_take (i := 39) (v := undef) (by simp only [List.getElem?_toArray, List.getElem?_cons_succ, List.getElem?_cons_zero]; rfl) (by kernel_rfl) (by kernel_rfl) (by kernel_rfl) (fun _ _ _ h => h) (Or.inr ⟨by kernel_rfl, rfl⟩) (by assumption) ?_; try go_frame)
            (refine wpAnyH_take (i := 40) (v := undef) (by simp only [List.getElem?_toArray, List.getElem?_cons_succ, List.getElem?_cons_zero]; rfl) (by kernel_rfl) (by kernel_rfl) (by kernel_rfl) (fun _ _ _ h => h) (Or.inr ⟨by kernel_rfl, rfl⟩) (by assumption) ?_; try go_frame)
            (refine wpAnyH_take (i := 41) (v := undef) (by simp only [List.getElem?_toArray, List.getElem?_cons_succ, List.getElem?_cons_zero]; rfl) (by kernel_rfl) (by kernel_rfl) (by kernel_rfl) (fun _ _ _ h => h) (Or.inr ⟨by kernel_rfl, rfl⟩) (by assumption) ?_; try go_frame)
            (refine wpAnyH_take (i := 42) (v := undef) (by simp only [List.getElem?_toArray, List.getElem?_cons_succ, List.getElem?_cons_zero]; rfl) (by kernel_rfl) (by kernel_rfl) (by kernel_rfl) (fun _ _ _ h => h) (Or.inr ⟨by kernel_rfl, rfl⟩) (by assumption) ?_; try go_frame)
            (refine wpAnyH_take (i := 43) (v := ?vc0V43) (by simp only [List.getElem?_toArray, List.getElem?_cons_succ, List.getElem?_cons_zero]; rfl) (by kernel_rfl) (by kernel_rfl) (by kernel_rfl) (fun _ _ _ h => h) (Or.inl ⟨by kernel_rfl, ?hyc0V43⟩) (by assumption) ?restc0V43; (case hyc0V43 => ((intro w' hSw); (try dsimp only at hSw); go_simp; (try with_reducible rfl))); try go_frame)
            refine wpAnyH_done (by kernel_rfl) ?_ _
            refine NoPanic.normal ?_
            go_wp2
            go_ret
            refine ⟨?_, btF HBK.out (hBelV _ (by assumption))⟩
            have hend : edOk e = false := by
              unfold edOk
              rw [HSO.out, HAT.out]
              simp [HSK.out, HP.out, Int.not_lt.2 HID.out]
            rw [hend]
            rfl
          · have hid' : p.id < t.id := by omega
            have HID : Hid (p.id < t.id) := hid'
            clear hid'
            have hdf : decide (t.id ≤ p.id) = false := by simpa using hid
            obtain ⟨an, ha⟩ : ∃ an, e.ans = an := ⟨_, rfl⟩
            rw [ha] at k0
            have HA : Hid (e.ans = an) := ha
            clear ha
            cases an with
            | true =>
              go_upto_region 4 with fail
              have hkeepV : ∀ w1 w2 : World, Below w1.heap.size w1 w2 → (w1.cell? ⟨w.heap.size, 6, none⟩ = some (.slice (some ⟨g, oo, none⟩) n c) ∧ w1.cell? ⟨w.heap.size, 0, none⟩ = some (.bool true) ∧ w1.cell? ⟨g, oo + (j + 1) * 12, none⟩ = some (.int .i64 t.id) ∧ w1.cell? ⟨g, oo + j * 12, none⟩ = some (.int .i64 p.id) ∧ Below wr.heap.size wr w1) → (w2.cell? ⟨w.heap.size, 6, none⟩ = some (.slice (some ⟨g, oo, none⟩) n c) ∧ w2.cell? ⟨w.heap.size, 0, none⟩ = some (.bool true) ∧ w2.cell? ⟨g, oo + (j + 1) * 12, none⟩ = some (.int .i64 t.id) ∧ w2.cell? ⟨g, oo + j * 12, none⟩ = some (.int .i64 p.id) ∧ Below wr.heap.size wr w2) := by
                rintro w1 w2 hb ⟨h0, h1, h2, h3, hB⟩
                exact ⟨keepc hb h0, keepc hb h1, keepc hb h2, keepc hb h3, bt' hB hb⟩
              have hBelV : ∀ w' : World, (w'.cell? ⟨w.heap.size, 6, none⟩ = some (.slice (some ⟨g, oo, none⟩) n c) ∧ w'.cell? ⟨w.heap.size, 0, none⟩ = some (.bool true) ∧ w'.cell? ⟨g, oo + (j + 1) * 12, none⟩ = some (.int .i64 t.id) ∧ w'.cell? ⟨g, oo + j * 12, none⟩ = some (.int .i64 p.id) ∧ Below wr.heap.size wr w') → Below wr.heap.size wr w' := fun w' h => h.2.2.2.2
              have hV0 : wr.cell? ⟨w.heap.size, 6, none⟩ = some (.slice (some ⟨g, oo, none⟩) n c) ∧ wr.cell? ⟨w.heap.size, 0, none⟩ = some (.bool true) ∧ wr.cell? ⟨g, oo + (j + 1) * 12, none⟩ = some (.int .i64 t.id) ∧ wr.cell? ⟨g, oo + j * 12, none⟩ = some (.int .i64 p.id) ∧ Below wr.heap.size wr wr := ⟨k4, k0, c0, c1, Below.refl _ _⟩
              refine wp_region_noPanic ?_
              refine wp_region_held_drew (S := fun w' => w'.cell? ⟨w.heap.size, 6, none⟩ = some (.slice (some ⟨g, oo, none⟩) n c) ∧ w'.cell? ⟨w.heap.size, 0, none⟩ = some (.bool true) ∧ w'.cell? ⟨g, oo + (j + 1) * 12, none⟩ = some (.int .i64 t.id) ∧ w'.cell? ⟨g, oo + j * 12, none⟩ = some (.int .i64 p.id) ∧ Below wr.heap.size wr w') (by kernel_rfl) ?_ (fun hHeld => ?_)
              · exact hkeepV _ _ ((Below.refl _ _).drew) hV0
              (refine wpAnyH_take (i := 0) (v := ?vc1V0) (by simp only [List.getElem?_toArray, List.getElem?_cons_zero]; rfl) (by kernel_rfl) (by kernel_rfl) (by kernel_rfl) (fun _ _ _ h => h) (Or.inl ⟨by kernel_rfl, ?hyc1V0⟩) (by assumption) ?restc1V0; (case hyc1V0 => ((intro w' hSw); (try dsimp only at hSw); go_simp; (try with_reducible rfl))); try go_frame)
              (refine wpAnyH_take (i := 1) (v := ?vc1V1) (by simp only [List.getElem?_toArray, List.getElem?_cons_succ, List.getElem?_cons_zero]; rfl) (by kernel_rfl) (by kernel_rfl) (by kernel_rfl) (fun _ _ _ h => h) (Or.inl ⟨by kernel_rfl, ?hyc1V1⟩) (by assumption) ?restc1V1; (case hyc1V1 => ((intro w' hSw); (try dsimp only at hSw); go_simp; (try with_reducible rfl))); try go_frame)
              (refine wpAnyH_take (i := 2) (v := ?vc1V2) (by simp only [List.getElem?_toArray, List.getElem?_cons_succ, List.getElem?_cons_zero]; rfl) (by kernel_rfl) (by kernel_rfl) (by kernel_rfl) (fun _ _ _ h => h) (Or.inl ⟨by kernel_rfl, ?hyc1V2⟩) (by assumption) ?restc1V2; (case hyc1V2 => ((intro w' hSw); (try dsimp only at hSw); go_simp; (try with_reducible rfl))); try go_frame)
              (refine wpAnyH_take (i := 3) (v := ?vc1V3) (by simp only [List.getElem?_toArray, List.getElem?_cons_succ, List.getElem?_cons_zero]; rfl) (by kernel_rfl) (by kernel_rfl) (by kernel_rfl) (fun _ _ _ h => h) (Or.inl ⟨by kernel_rfl, ?hyc1V3⟩) (by assumption) ?restc1V3; (case hyc1V3 => ((intro w' hSw); (try dsimp only at hSw); go_simp; (try with_reducible rfl))); try go_frame)
              (refine wpAnyH_take (i := 4) (v := .agg (smC t (.slice ah nh ch) (.slice ag ng cg)).toArray) (by simp only [List.getElem?_toArray, List.getElem?_cons_succ, List.getElem?_cons_zero]; rfl) (by kernel_rfl) (by kernel_rfl) (by kernel_rfl) (fun _ _ _ h => h) (yieldsIf_load_mid (by kernel_rfl) 70 _ (by rfl) g (oo + (j + 1) * 12) (by rfl) (smC t (.slice ah nh ch) (.slice ag ng cg)) _ (fun w' h => rangeAt_below HRG.out (hBelV w' h)) Try.underlying70 (by rfl) infoSm) (by assumption) ?restc1V4; try go_frame)
              refine wpAnyH_ready (rs := [5]) (by kernel_rfl) (by simp) ?_
              refine AllReadyH.cons (by simp only [List.getElem?_toArray, List.getElem?_cons_succ, List.getElem?_cons_zero]; rfl) (fun K hK => ?_) AllReadyH.nil
              first | (go_at_call 37; refine (hst _ (HFH.out.below (hBelV _ (by assumption))) (HFG.out.below (hBelV _ (by assumption)))).mono ?_; rintro r wN ⟨rfl, hbN⟩) | (go_simp; (go_at_call 37; refine (hst _ (HFH.out.below (hBelV _ (by assumption))) (HFG.out.below (hBelV _ (by assumption)))).mono ?_; rintro r wN ⟨rfl, hbN⟩))
              try (go_wp2_with fail)
              refine hK.out _ _ ?_ (fun hHeld => ?_)
              · (try dsimp only); exact hkeepV _ _ hbN (by assumption)
              clear hK K
              try go_frame
              (refine wpAnyH_take (i := 6) (v := ?vc1V6) (by simp only [List.getElem?_toArray, List.getElem?_cons_succ, List.getElem?_cons_zero]; rfl) (by kernel_rfl) (by kernel_rfl) (by kernel_rfl) (fun _ _ _ h => h) (Or.inl ⟨by kernel_rfl, ?hyc1V6⟩) (by assumption) ?restc1V6; (case hyc1V6 => ((intro w' hSw); (try dsimp only at hSw); go_simp; (try with_reducible rfl))); try go_frame)
              (refine wpAnyH_take (i := 7) (v := ?vc1V7) (by simp only [List.getElem?_toArray, List.getElem?_cons_succ, List.getElem?_cons_zero]; rfl) (by kernel_rfl) (by kernel_rfl) (by kernel_rfl) (fun _ _ _ h => h) (Or.inl ⟨by kernel_rfl, ?hyc1V7⟩) (by assumption) ?restc1V7; (case hyc1V7 => ((intro w' hSw); (try dsimp only at hSw); go_simp; (try with_reducible rfl))); try go_frame)
              (refine wpAnyH_take (i := 8) (v := ?vc1V8) (by simp only [List.getElem?_toArray, List.getElem?_cons_succ, List.getElem?_cons_zero]; rfl) (by kernel_rfl) (by kernel_rfl) (by kernel_rfl) (fun _ _ _ h => h) (Or.inl ⟨by kernel_rfl, ?hyc1V8⟩) (by assumption) ?restc1V8; (case hyc1V8 => ((intro w' hSw); (try dsimp only at hSw); go_simp; (try with_reducible rfl))); try go_frame)
              (refine wpAnyH_take (i := 9) (v := ?vc1V9) (by simp only [List.getElem?_toArray, List.getElem?_cons_succ, List.getElem?_cons_zero]; rfl) (by kernel_rfl) (by kernel_rfl) (by kernel_rfl) (fun _ _ _ h => h) (Or.inl ⟨by kernel_rfl, ?hyc1V9⟩) (by assumption) ?restc1V9; (case hyc1V9 => ((intro w' hSw); (try dsimp only at hSw); go_simp; (try with_reducible rfl))); try go_frame)
              (refine wpAnyH_take (i := 10) (v := ?vc1V10) (by simp only [List.getElem?_toArray, List.getElem?_cons_succ, List.getElem?_cons_zero]; rfl) (by kernel_rfl) (by kernel_rfl) (by kernel_rfl) (fun _ _ _ h => h) (Or.inl ⟨by kernel_rfl, ?hyc1V10⟩) (by assumption) ?restc1V10; (case hyc1V10 => ((intro w' hSw); (try dsimp only at hSw); go_simp; (try with_reducible rfl))); try go_frame)
              (refine wpAnyH_take (i := 11) (v := ?vc1V11) (by simp only [List.getElem?_toArray, List.getElem?_cons_succ, List.getElem?_cons_zero]; rfl) (by kernel_rfl) (by kernel_rfl) (by kernel_rfl) (fun _ _ _ h => h) (Or.inl ⟨by kernel_rfl, ?hyc1V11⟩) (by assumption) ?restc1V11; (case hyc1V11 => ((intro w' hSw); (try dsimp only at hSw); go_simp; (try with_reducible rfl))); try go_frame)
              (refine wpAnyH_take (i := 12) (v := ?vc1V12) (by simp only [List.getElem?_toArray, List.getElem?_cons_succ, List.getElem?_cons_zero]; rfl) (by kernel_rfl) (by kernel_rfl) (by kernel_rfl) (fun _ _ _ h => h) (Or.inl ⟨by kernel_rfl, ?hyc1V12⟩) (by assumption) ?restc1V12; (case hyc1V12 => ((intro w' hSw); (try dsimp only at hSw); go_simp; (try with_reducible rfl))); try go_frame)
              (refine wpAnyH_take (i := 13) (v := ?vc1V13) (by simp only [List.getElem?_toArray, List.getElem?_cons_succ, List.getElem?_cons_zero]; rfl) (by kernel_rfl) (by kernel_rfl) (by kernel_rfl) (fun _ _ _ h => h) (Or.inl ⟨by kernel_rfl, ?hyc1V13⟩) (by assumption) ?restc1V13; (case hyc1V13 => ((intro w' hSw); (try dsimp only at hSw); go_simp; (try with_reducible rfl))); try go_frame)
              (refine wpAnyH_take (i := 14) (v := ?vc1V14) (by simp only [List.getElem?_toArray, List.getElem?_cons_succ, List.getElem?_cons_zero]; rfl) (by kernel_rfl) (by kernel_rfl) (by kernel_rfl) (fun _ _ _ h => h) (Or.inl ⟨by kernel_rfl, ?hyc1V14⟩) (by assumption) ?restc1V14; (case hyc1V14 => ((intro w' hSw); (try dsimp only at hSw); go_simp; (try with_reducible rfl))); try go_frame)
              (refine wpAnyH_take (i := 15) (v := ?vc1V15) (by simp only [List.getElem?_toArray, List.getElem?_cons_succ, List.getElem?_cons_zero]; rfl) (by kernel_rfl) (by kernel_rfl) (by kernel_rfl) (fun _ _ _ h => h) (Or.inl ⟨by kernel_rfl, ?hyc1V15⟩) (by assumption) ?restc1V15; (case hyc1V15 => ((intro w' hSw); (try dsimp only at hSw); go_simp; (try with_reducible rfl))); try go_frame)
              (refine wpAnyH_take (i := 16) (v := ?vc1V16) (by simp only [List.getElem?_toArray, List.getElem?_cons_succ, List.getElem?_cons_zero]; rfl) (by kernel_rfl) (by kernel_rfl) (by kernel_rfl) (fun _ _ _ h => h) (Or.inl ⟨by kernel_rfl, ?hyc1V16⟩) (by assumption) ?restc1V16; (case hyc1V16 => ((intro w' hSw); (try dsimp only at hSw); go_simp; (try with_reducible rfl))); try go_frame)
              (refine wpAnyH_take (i := 17) (v := ?vc1V17) (by simp only [List.getElem?_toArray, List.getElem?_cons_succ, List.getElem?_cons_zero]; rfl) (by kernel_rfl) (by kernel_rfl) (by kernel_rfl) (fun _ _ _ h => h) (Or.inl ⟨by kernel_rfl, ?hyc1V17⟩) (by assumption) ?restc1V17; (case hyc1V17 => ((intro w' hSw); (try dsimp only at hSw); go_simp; (try with_reducible rfl))); try go_frame)
              (refine wpAnyH_take (i := 18) (v := ?vc1V18) (by simp only [List.getElem?_toArray, List.getElem?_cons_succ, List.getElem?_cons_zero]; rfl) (by kernel_rfl) (by kernel_rfl) (by kernel_rfl) (fun _ _ _ h => h) (Or.inl ⟨by kernel_rfl, ?hyc1V18⟩) (by assumption) ?restc1V18; (case hyc1V18 => ((intro w' hSw); (try dsimp only at hSw); go_simp; (try with_reducible rfl))); try go_frame)
              (refine wpAnyH_take (i := 19) (v := ?vc1V19) (by simp only [List.getElem?_toArray, List.getElem?_cons_succ, List.getElem?_cons_zero]; rfl) (by kernel_rfl) (by kernel_rfl) (by kernel_rfl) (fun _ _ _ h => h) (Or.inl ⟨by kernel_rfl, ?hyc1V19⟩) (by assumption) ?restc1V19; (case hyc1V19 => ((intro w' hSw); (try dsimp only at hSw); go_simp; (try with_reducible rfl))); try go_frame)
              (refine wpAnyH_take (i := 20) (v := ?vc1V20) (by simp only [List.getElem?_toArray, List.getElem?_cons_succ, List.getElem?_cons_zero]; rfl) (by kernel_rfl) (by kernel_rfl) (by kernel_rfl) (fun _ _ _ h => h) (Or.inl ⟨by kernel_rfl, ?hyc1V20⟩) (by assumption) ?restc1V20; (case hyc1V20 => ((intro w' hSw); (try dsimp only at hSw); go_simp; (try with_reducible rfl))); try go_frame)
              (refine wpAnyH_take (i := 21) (v := ?vc1V21) (by simp only [List.getElem?_toArray, List.getElem?_cons_succ, List.getElem?_cons_zero]; rfl) (by kernel_rfl) (by kernel_rfl) (by kernel_rfl) (fun _ _ _ h => h) (Or.inl ⟨by kernel_rfl, ?hyc1V21⟩) (by assumption) ?restc1V21; (case hyc1V21 => ((intro w' hSw); (try dsimp only at hSw); go_simp; (try with_reducible rfl))); try go_frame)
              (refine wpAnyH_take (i := 22) (v := ?vc1V22) (by simp only [List.getElem?_toArray, List.getElem?_cons_succ, List.getElem?_cons_zero]; rfl) (by kernel_rfl) (by kernel_rfl) (by kernel_rfl) (fun _ _ _ h => h) (Or.inl ⟨by kernel_rfl, ?hyc1V22⟩) (by assumption) ?restc1V22; (case hyc1V22 => ((intro w' hSw); (try dsimp only at hSw); go_simp; (try with_reducible rfl))); try go_frame)
              (refine wpAnyH_take (i := 23) (v := ?vc1V23) (by simp only [List.getElem?_toArray, List.getElem?_cons_succ, List.getElem?_cons_zero]; rfl) (by kernel_rfl) (by kernel_rfl) (by kernel_rfl) (fun _ _ _ h => h) (Or.inl ⟨by kernel_rfl, ?hyc1V23⟩) (by assumption) ?restc1V23; (case hyc1V23 => ((intro w' hSw); (try dsimp only at hSw); go_simp; (try with_reducible rfl))); try go_frame)
              (refine wpAnyH_take (i := 24) (v := ?vc1V24) (by simp only [List.getElem?_toArray, List.getElem?_cons_succ, List.getElem?_cons_zero]; rfl) (by kernel_rfl) (by kernel_rfl) (by kernel_rfl) (fun _ _ _ h => h) (Or.inl ⟨by kernel_rfl, ?hyc1V24⟩) (by assumption) ?restc1V24; (case hyc1V24 => ((intro w' hSw); (try dsimp only at hSw); go_simp; (try with_reducible rfl))); try go_frame)
              (refine wpAnyH_take (i := 25) (v := ?vc1V25) (by simp only [List.getElem?_toArray, List.getElem?_cons_succ, List.getElem?_cons_zero]; rfl) (by kernel_rfl) (by kernel_rfl) (by kernel_rfl) (fun _ _ _ h => h) (Or.inl ⟨by kernel_rfl, ?hyc1V25⟩) (by assumption) ?restc1V25; (case hyc1V25 => ((intro w' hSw); (try dsimp only at hSw); go_simp; (try with_reducible rfl))); try go_frame)
              (refine wpAnyH_take (i := 26) (v := ?vc1V26) (by simp only [List.getElem?_toArray, List.getElem?_cons_succ, List.getElem?_cons_zero]; rfl) (by kernel_rfl) (by kernel_rfl) (by kernel_rfl) (fun _ _ _ h => h) (Or.inl ⟨by kernel_rfl, ?hyc1V26⟩) (by assumption) ?restc1V26; (case hyc1V26 => ((intro w' hSw); (try dsimp only at hSw); go_simp; (try with_reducible rfl))); try go_frame)
              (refine wpAnyH_take (i := 27) (v := ?vc1V27) (by simp only [List.getElem?_toArray, List.getElem?_cons_succ, List.getElem?_cons_zero]; rfl) (by kernel_rfl) (by kernel_rfl) (by kernel_rfl) (fun _ _ _ h => h) (Or.inl ⟨by kernel_rfl, ?hyc1V27⟩) (by assumption) ?restc1V27; (case hyc1V27 => ((intro w' hSw); (try dsimp only at hSw); go_simp; (try with_reducible rfl))); try go_frame)
              (refine wpAnyH_take (i := 28) (v := ?vc1V28) (by simp only [List.getElem?_toArray, List.getElem?_cons_succ, List.getElem?_cons_zero]; rfl) (by kernel_rfl) (by kernel_rfl) (by kernel_rfl) (fun _ _ _ h => h) (Or.inl ⟨by kernel_rfl, ?hyc1V28⟩) (by assumption) ?restc1V28; (case hyc1V28 => ((intro w' hSw); (try dsimp only at hSw); go_simp; (try with_reducible rfl))); try go_frame)
              (refine wpAnyH_take (i := 29) (v := ?vc1V29) (by simp only [List.getElem?_toArray, List.getElem?_cons_succ, List.getElem?_cons_zero]; rfl) (by kernel_rfl) (by kernel_rfl) (by kernel_rfl) (fun _ _ _ h => h) (Or.inl ⟨by kernel_rfl, ?hyc1V29⟩) (by assumption) ?restc1V29; (case hyc1V29 => ((intro w' hSw); (try dsimp only at hSw); go_simp; (try with_reducible rfl))); try go_frame)
              (refine wpAnyH_take (i := 30) (v := ?vc1V30) (by simp only [List.getElem?_toArray, List.getElem?_cons_succ, List.getElem?_cons_zero]; rfl) (by kernel_rfl) (by kernel_rfl) (by kernel_rfl) (fun _ _ _ h => h) (Or.inl ⟨by kernel_rfl, ?hyc1V30⟩) (by assumption) ?restc1V30; (case hyc1V30 => ((intro w' hSw); (try dsimp only at hSw); go_simp; (try with_reducible rfl))); try go_frame)
              (refine wpAnyH_take (i := 31) (v := ?vc1V31) (by simp only [List.getElem?_toArray, List.getElem?_cons_succ, List.getElem?_cons_zero]; rfl) (by kernel_rfl) (by kernel_rfl) (by kernel_rfl) (fun _ _ _ h => h) (Or.inl ⟨by kernel_rfl, ?hyc1V31⟩) (by assumption) ?restc1V31; (case hyc1V31 => ((intro w' hSw); (try dsimp only at hSw); go_simp; (try with_reducible rfl))); try go_frame)
              (refine wpAnyH_take (i := 32) (v := undef) (by simp only [List.getElem?_toArray, List.getElem?_cons_succ, List.getElem?_cons_zero]; rfl) (by kernel_rfl) (by kernel_rfl) (by kernel_rfl) (fun _ _ _ h => h) (Or.inr ⟨by kernel_rfl, rfl⟩) (by assumption) ?_; try go_frame)
              (refine wpAnyH_take (i := 33) (v := undef) (by simp only [List.getElem?_toArray, List.getElem?_cons_succ, List.getElem?_cons_zero]; rfl) (by kernel_rfl) (by kernel_rfl) (by kernel_rfl) (fun _ _ _ h => h) (Or.inr ⟨by kernel_rfl, rfl⟩) (by assumption) ?_; try go_frame)
              (refine wpAnyH_take (i := 34) (v := undef) (by simp only [List.getElem?_toArray, List.getElem?_cons_succ, List.getElem?_cons_zero]; rfl) (by kernel_rfl) (by kernel_rfl) (by kernel_rfl) (fun _ _ _ h => h) (Or.inr ⟨by kernel_rfl, rfl⟩) (by assumption) ?_; try go_frame)
              (refine wpAnyH_take (i := 35) (v := undef) (by simp only [List.getElem?_toArray, List.getElem?_cons_succ, List.getElem?_cons_zero]; rfl) (by kernel_rfl) (by kernel_rfl) (by kernel_rfl) (fun _ _ _ h => h) (Or.inr ⟨by kernel_rfl, rfl⟩) (by assumption) ?_; try go_frame)
              (refine wpAnyH_take (i := 36) (v := undef) (by simp only [List.getElem?_toArray, List.getElem?_cons_succ, List.getElem?_cons_zero]; rfl) (by kernel_rfl) (by kernel_rfl) (by kernel_rfl) (fun _ _ _ h => h) (Or.inr ⟨by kernel_rfl, rfl⟩) (by assumption) ?_; try go_frame)
              (refine wpAnyH_take (i := 37) (v := undef) (by simp only [List.getElem?_toArray, List.getElem?_cons_succ, List.getElem?_cons_zero]; rfl) (by kernel_rfl) (by kernel_rfl) (by kernel_rfl) (fun _ _ _ h => h) (Or.inr ⟨by kernel_rfl, rfl⟩) (by assumption) ?_; try go_frame)
              (refine wpAnyH_take (i := 38) (v := undef) (by simp only [List.getElem?_toArray, List.getElem?_cons_succ, List.getElem?_cons_zero]; rfl) (by kernel_rfl) (by kernel_rfl) (by kernel_rfl) (fun _ _ _ h => h) (Or.inr ⟨by kernel_rfl, rfl⟩) (by assumption) ?_; try go_frame)
              (refine wpAnyH_take (i := 39) (v := undef) (by simp only [List.getElem?_toArray, List.getElem?_cons_succ, List.getElem?_cons_zero]; rfl) (by kernel_rfl) (by kernel_rfl) (by kernel_rfl) (fun _ _ _ h => h) (Or.inr ⟨by kernel_rfl, rfl⟩) (by assumption) ?_; try go_frame)
              (refine wpAnyH_take (i := 40) (v := undef) (by simp only [List.getElem?_toArray, List.getElem?_cons_succ, List.getElem?_cons_zero]; rfl) (by kernel_rfl) (by kernel_rfl) (by kernel_rfl) (fun _ _ _ h => h) (Or.inr ⟨by kernel_rfl, rfl⟩) (by assumption) ?_; try go_frame)
              (refine wpAnyH_take (i := 41) (v := undef) (by simp only [List.getElem?_toArray, List.getElem?_cons_succ, List.getElem?_cons_zero]; rfl) (by kernel_rfl) (by kernel_rfl) (by kernel_rfl) (fun _ _ _ h => h) (Or.inr ⟨by kernel_rfl, rfl⟩) (by assumption) ?_; try go_frame)
              (refine wpAnyH_take (i := 42) (v := ?vc1V42) (by simp only [List.getElem?_toArray, List.getElem?_cons_succ, List.getElem?_cons_zero]; rfl) (by kernel_rfl) (by kernel_rfl) (by kernel_rfl) (fun _ _ _ h => h) (Or.inl ⟨by kernel_rfl, ?hyc1V42⟩) (by assumption) ?restc1V42; (case hyc1V42 => ((intro w' hSw); (try dsimp only at hSw); go_simp; (try with_reducible rfl))); try go_frame)
              (refine wpAnyH_take (i := 43) (v := ?vc1V43) (by simp only [List.getElem?_toArray, List.getElem?_cons_succ, List.getElem?_cons_zero]; rfl) (by kernel_rfl) (by kernel_rfl) (by kernel_rfl) (fun _ _ _ h => h) (Or.inl ⟨by kernel_rfl, ?hyc1V43⟩) (by assumption) ?restc1V43; (case hyc1V43 => ((intro w' hSw); (try dsimp only at hSw); go_simp; (try with_reducible rfl))); try go_frame)
              refine wpAnyH_done (by kernel_rfl) ?_ _
              refine NoPanic.normal ?_
              go_wp2
              go_roundw
              case rel =>
                refine ⟨(j + 1) + 1, by omega, by go_num, ?_, blkF (hBelV _ (by assumption)) HRK.out, btF HBK.out (hBelV _ (by assumption))⟩
                rw [HSO.out, HAT.out]
                simp [HSK.out, HP.out, HID.out, HA.out]
              case measure => simp [intOf]; omega
            | false =>
              have hw1 : IntKind.i64.wrap (2 * ((j : Int) + 1)) = 2 * ((j : Int) + 1) := by rw [IntKind.wrap_i64]; omega
              have hw2 : IntKind.i64.wrap (2 * ((j : Int) + 1) + 1) = 2 * ((j : Int) + 1) + 1 := by rw [IntKind.wrap_i64]; omega
              go_upto_region 4 with fail
              have hkeepV : ∀ w1 w2 : World, Below w1.heap.size w1 w2 → (w1.cell? ⟨w.heap.size, 6, none⟩ = some (.slice (some ⟨g, oo, none⟩) n c) ∧ w1.cell? ⟨w.heap.size, 0, none⟩ = some (.bool false) ∧ w1.cell? ⟨g, oo + (j + 1) * 12, none⟩ = some (.int .i64 t.id) ∧ w1.cell? ⟨g, oo + j * 12, none⟩ = some (.int .i64 p.id) ∧ Below wr.heap.size wr w1) → (w2.cell? ⟨w.heap.size, 6, none⟩ = some (.slice (some ⟨g, oo, none⟩) n c) ∧ w2.cell? ⟨w.heap.size, 0, none⟩ = some (.bool false) ∧ w2.cell? ⟨g, oo + (j + 1) * 12, none⟩ = some (.int .i64 t.id) ∧ w2.cell? ⟨g, oo + j * 12, none⟩ = some (.int .i64 p.id) ∧ Below wr.heap.size wr w2) := by
                rintro w1 w2 hb ⟨h0, h1, h2, h3, hB⟩
                exact ⟨keepc hb h0, keepc hb h1, keepc hb h2, keepc hb h3, bt' hB hb⟩
              have hBelV : ∀ w' : World, (w'.cell? ⟨w.heap.size, 6, none⟩ = some (.slice (some ⟨g, oo, none⟩) n c) ∧ w'.cell? ⟨w.heap.size, 0, none⟩ = some (.bool false) ∧ w'.cell? ⟨g, oo + (j + 1) * 12, none⟩ = some (.int .i64 t.id) ∧ w'.cell? ⟨g, oo + j * 12, none⟩ = some (.int .i64 p.id) ∧ Below wr.heap.size wr w') → Below wr.heap.size wr w' := fun w' h => h.2.2.2.2
              have hV0 : wr.cell? ⟨w.heap.size, 6, none⟩ = some (.slice (some ⟨g, oo, none⟩) n c) ∧ wr.cell? ⟨w.heap.size, 0, none⟩ = some (.bool false) ∧ wr.cell? ⟨g, oo + (j + 1) * 12, none⟩ = some (.int .i64 t.id) ∧ wr.cell? ⟨g, oo + j * 12, none⟩ = some (.int .i64 p.id) ∧ Below wr.heap.size wr wr := ⟨k4, k0, c0, c1, Below.refl _ _⟩
              refine wp_region_noPanic ?_
              refine wp_region_held_drew (S := fun w' => w'.cell? ⟨w.heap.size, 6, none⟩ = some (.slice (some ⟨g, oo, none⟩) n c) ∧ w'.cell? ⟨w.heap.size, 0, none⟩ = some (.bool false) ∧ w'.cell? ⟨g, oo + (j + 1) * 12, none⟩ = some (.int .i64 t.id) ∧ w'.cell? ⟨g, oo + j * 12, none⟩ = some (.int .i64 p.id) ∧ Below wr.heap.size wr w') (by kernel_rfl) ?_ (fun hHeld => ?_)
              · exact hkeepV _ _ ((Below.refl _ _).drew) hV0
              (refine wpAnyH_take (i := 0) (v := ?vc2V0) (by simp only [List.getElem?_toArray, List.getElem?_cons_zero]; rfl) (by kernel_rfl) (by kernel_rfl) (by kernel_rfl) (fun _ _ _ h => h) (Or.inl ⟨by kernel_rfl, ?hyc2V0⟩) (by assumption) ?restc2V0; (case hyc2V0 => ((intro w' hSw); (try dsimp only at hSw); go_simp; (try with_reducible rfl))); try go_frame)
              (refine wpAnyH_take (i := 1) (v := ?vc2V1) (by simp only [List.getElem?_toArray, List.getElem?_cons_succ, List.getElem?_cons_zero]; rfl) (by kernel_rfl) (by kernel_rfl) (by kernel_rfl) (fun _ _ _ h => h) (Or.inl ⟨by kernel_rfl, ?hyc2V1⟩) (by assumption) ?restc2V1; (case hyc2V1 => ((intro w' hSw); (try dsimp only at hSw); go_simp; (try with_reducible rfl))); try go_frame)
              (refine wpAnyH_take (i := 2) (v := ?vc2V2) (by simp only [List.getElem?_toArray, List.getElem?_cons_succ, List.getElem?_cons_zero]; rfl) (by kernel_rfl) (by kernel_rfl) (by kernel_rfl) (fun _ _ _ h => h) (Or.inl ⟨by kernel_rfl, ?hyc2V2⟩) (by assumption) ?restc2V2; (case hyc2V2 => ((intro w' hSw); (try dsimp only at hSw); go_simp; (try with_reducible rfl))); try go_frame)
              (refine wpAnyH_take (i := 3) (v := ?vc2V3) (by simp only [List.getElem?_toArray, List.getElem?_cons_succ, List.getElem?_cons_zero]; rfl) (by kernel_rfl) (by kernel_rfl) (by kernel_rfl) (fun _ _ _ h => h) (Or.inl ⟨by kernel_rfl, ?hyc2V3⟩) (by assumption) ?restc2V3; (case hyc2V3 => ((intro w' hSw); (try dsimp only at hSw); go_simp; (try with_reducible rfl))); try go_frame)
              (refine wpAnyH_take (i := 4) (v := .agg (smC t (.slice ah nh ch) (.slice ag ng cg)).toArray) (by simp only [List.getElem?_toArray, List.getElem?_cons_succ, List.getElem?_cons_zero]; rfl) (by kernel_rfl) (by kernel_rfl) (by kernel_rfl) (fun _ _ _ h => h) (yieldsIf_load_mid (by kernel_rfl) 70 _ (by rfl) g (oo + (j + 1) * 12) (by rfl) (smC t (.slice ah nh ch) (.slice ag ng cg)) _ (fun w' h => rangeAt_below HRG.out (hBelV w' h)) Try.underlying70 (by rfl) infoSm) (by assumption) ?restc2V4; try go_frame)
              refine wpAnyH_ready (rs := [5]) (by kernel_rfl) (by simp) ?_
              refine AllReadyH.cons (by simp only [List.getElem?_toArray, List.getElem?_cons_succ, List.getElem?_cons_zero]; rfl) (fun K hK => ?_) AllReadyH.nil
              first | (go_at_call 37; refine (hst _ (HFH.out.below (hBelV _ (by assumption))) (HFG.out.below (hBelV _ (by assumption)))).mono ?_; rintro r wN ⟨rfl, hbN⟩) | (go_simp; (go_at_call 37; refine (hst _ (HFH.out.below (hBelV _ (by assumption))) (HFG.out.below (hBelV _ (by assumption)))).mono ?_; rintro r wN ⟨rfl, hbN⟩))
              try (go_wp2_with fail)
              refine hK.out _ _ ?_ (fun hHeld => ?_)
              · (try dsimp only); exact hkeepV _ _ hbN (by assumption)
              clear hK K
              try go_frame
              (refine wpAnyH_take (i := 6) (v := ?vc2V6) (by simp only [List.getElem?_toArray, List.getElem?_cons_succ, List.getElem?_cons_zero]; rfl) (by kernel_rfl) (by kernel_rfl) (by kernel_rfl) (fun _ _ _ h => h) (Or.inl ⟨by kernel_rfl, ?hyc2V6⟩) (by assumption) ?restc2V6; (case hyc2V6 => ((intro w' hSw); (try dsimp only at hSw); go_simp; (try with_reducible rfl))); try go_frame)
              (refine wpAnyH_take (i := 7) (v := ?vc2V7) (by simp only [List.getElem?_toArray, List.getElem?_cons_succ, List.getElem?_cons_zero]; rfl) (by kernel_rfl) (by kernel_rfl) (by kernel_rfl) (fun _ _ _ h => h) (Or.inl ⟨by kernel_rfl, ?hyc2V7⟩) (by assumption) ?restc2V7; (case hyc2V7 => ((intro w' hSw); (try dsimp only at hSw); go_simp; (try with_reducible rfl))); try go_frame)
              (refine wpAnyH_take (i := 8) (v := ?vc2V8) (by simp only [List.getElem?_toArray, List.getElem?_cons_succ, List.getElem?_cons_zero]; rfl) (by kernel_rfl) (by kernel_rfl) (by kernel_rfl) (fun _ _ _ h => h) (Or.inl ⟨by kernel_rfl, ?hyc2V8⟩) (by assumption) ?restc2V8; (case hyc2V8 => ((intro w' hSw); (try dsimp only at hSw); go_simp; (try with_reducible rfl))); try go_frame)
              (refine wpAnyH_take (i := 9) (v := ?vc2V9) (by simp only [List.getElem?_toArray, List.getElem?_cons_succ, List.getElem?_cons_zero]; rfl) (by kernel_rfl) (by kernel_rfl) (by kernel_rfl) (fun _ _ _ h => h) (Or.inl ⟨by kernel_rfl, ?hyc2V9⟩) (by assumption) ?restc2V9; (case hyc2V9 => ((intro w' hSw); (try dsimp only at hSw); go_simp; (try with_reducible rfl))); try go_frame)
              (refine wpAnyH_take (i := 10) (v := ?vc2V10) (by simp only [List.getElem?_toArray, List.getElem?_cons_succ, List.getElem?_cons_zero]; rfl) (by kernel_rfl) (by kernel_rfl) (by kernel_rfl) (fun _ _ _ h => h) (Or.inl ⟨by kernel_rfl, ?hyc2V10⟩) (by assumption) ?restc2V10; (case hyc2V10 => ((intro w' hSw); (try dsimp only at hSw); go_simp; (try with_reducible rfl))); try go_frame)
              (refine wpAnyH_take (i := 11) (v := ?vc2V11) (by simp only [List.getElem?_toArray, List.getElem?_cons_succ, List.getElem?_cons_zero]; rfl) (by kernel_rfl) (by kernel_rfl) (by kernel_rfl) (fun _ _ _ h => h) (Or.inl ⟨by kernel_rfl, ?hyc2V11⟩) (by assumption) ?restc2V11; (case hyc2V11 => ((intro w' hSw); (try dsimp only at hSw); go_simp; (try with_reducible rfl))); try go_frame)
              (refine wpAnyH_take (i := 12) (v := ?vc2V12) (by simp only [List.getElem?_toArray, List.getElem?_cons_succ, List.getElem?_cons_zero]; rfl) (by kernel_rfl) (by kernel_rfl) (by kernel_rfl) (fun _ _ _ h => h) (Or.inl ⟨by kernel_rfl, ?hyc2V12⟩) (by assumption) ?restc2V12; (case hyc2V12 => ((intro w' hSw); (try dsimp only at hSw); go_simp; (try with_reducible rfl))); try go_frame)
              (refine wpAnyH_take (i := 13) (v := ?vc2V13) (by simp only [List.getElem?_toArray, List.getElem?_cons_succ, List.getElem?_cons_zero]; rfl) (by kernel_rfl) (by kernel_rfl) (by kernel_rfl) (fun _ _ _ h => h) (Or.inl ⟨by kernel_rfl, ?hyc2V13⟩) (by assumption) ?restc2V13; (case hyc2V13 => ((intro w' hSw); (try dsimp only at hSw); go_simp; (try with_reducible rfl))); try go_frame)
              (refine wpAnyH_take (i := 14) (v := ?vc2V14) (by simp only [List.getElem?_toArray, List.getElem?_cons_succ, List.getElem?_cons_zero]; rfl) (by kernel_rfl) (by kernel_rfl) (by kernel_rfl) (fun _ _ _ h => h) (Or.inl ⟨by kernel_rfl, ?hyc2V14⟩) (by assumption) ?restc2V14; (case hyc2V14 => ((intro w' hSw); (try dsimp only at hSw); go_simp; (try with_reducible rfl))); try go_frame)
              (refine wpAnyH_take (i := 15) (v := ?vc2V15) (by simp only [List.getElem?_toArray, List.getElem?_cons_succ, List.getElem?_cons_zero]; rfl) (by kernel_rfl) (by kernel_rfl) (by kernel_rfl) (fun _ _ _ h => h) (Or.inl ⟨by kernel_rfl, ?hyc2V15⟩) (by assumption) ?restc2V15; (case hyc2V15 => ((intro w' hSw); (try dsimp only at hSw); go_simp; (try with_reducible rfl))); try go_frame)
              (refine wpAnyH_take (i := 16) (v := ?vc2V16) (by simp only [List.getElem?_toArray, List.getElem?_cons_succ, List.getElem?_cons_zero]; rfl) (by kernel_rfl) (by kernel_rfl) (by kernel_rfl) (fun _ _ _ h => h) (Or.inl ⟨by kernel_rfl, ?hyc2V16⟩) (by assumption) ?restc2V16; (case hyc2V16 => ((intro w' hSw); (try dsimp only at hSw); go_simp; (try with_reducible rfl))); try go_frame)
              (refine wpAnyH_take (i := 17) (v := ?vc2V17) (by simp only [List.getElem?_toArray, List.getElem?_cons_succ, List.getElem?_cons_zero]; rfl) (by kernel_rfl) (by kernel_rfl) (by kernel_rfl) (fun _ _ _ h => h) (Or.inl ⟨by kernel_rfl, ?hyc2V17⟩) (by assumption) ?restc2V17; (case hyc2V17 => ((intro w' hSw); (try dsimp only at hSw); go_simp; (try with_reducible rfl))); try go_frame)
              (refine wpAnyH_take (i := 18) (v := ?vc2V18) (by simp only [List.getElem?_toArray, List.getElem?_cons_succ, List.getElem?_cons_zero]; rfl) (by kernel_rfl) (by kernel_rfl) (by kernel_rfl) (fun _ _ _ h => h) (Or.inl ⟨by kernel_rfl, ?hyc2V18⟩) (by assumption) ?restc2V18; (case hyc2V18 => ((intro w' hSw); (try dsimp only at hSw); go_simp; (try with_reducible rfl))); try go_frame)
              (refine wpAnyH_take (i := 19) (v := ?vc2V19) (by simp only [List.getElem?_toArray, List.getElem?_cons_succ, List.getElem?_cons_zero]; rfl) (by kernel_rfl) (by kernel_rfl) (by kernel_rfl) (fun _ _ _ h => h) (Or.inl ⟨by kernel_rfl, ?hyc2V19⟩) (by assumption) ?restc2V19; (case hyc2V19 => ((intro w' hSw); (try dsimp only at hSw); go_simp; (try with_reducible rfl))); try go_frame)
              (refine wpAnyH_take (i := 20) (v := ?vc2V20) (by simp only [List.getElem?_toArray, List.getElem?_cons_succ, List.getElem?_cons_zero]; rfl) (by kernel_rfl) (by kernel_rfl) (by kernel_rfl) (fun _ _ _ h => h) (Or.inl ⟨by kernel_rfl, ?hyc2V20⟩) (by assumption) ?restc2V20; (case hyc2V20 => ((intro w' hSw); (try dsimp only at hSw); go_simp; (try with_reducible rfl))); try go_frame)
              (refine wpAnyH_take (i := 21) (v := ?vc2V21) (by simp only [List.getElem?_toArray, List.getElem?_cons_succ, List.getElem?_cons_zero]; rfl) (by kernel_rfl) (by kernel_rfl) (by kernel_rfl) (fun _ _ _ h => h) (Or.inl ⟨by kernel_rfl, ?hyc2V21⟩) (by assumption) ?restc2V21; (case hyc2V21 => ((intro w' hSw); (try dsimp only at hSw); go_simp; (try with_reducible rfl))); try go_frame)
              (refine wpAnyH_take (i := 22) (v := ?vc2V22) (by simp only [List.getElem?_toArray, List.getElem?_cons_succ, List.getElem?_cons_zero]; rfl) (by kernel_rfl) (by kernel_rfl) (by kernel_rfl) (fun _ _ _ h => h) (Or.inl ⟨by kernel_rfl, ?hyc2V22⟩) (by assumption) ?restc2V22; (case hyc2V22 => ((intro w' hSw); (try dsimp only at hSw); go_simp; (try with_reducible rfl))); try go_frame)
              (refine wpAnyH_take (i := 23) (v := ?vc2V23) (by simp only [List.getElem?_toArray, List.getElem?_cons_succ, List.getElem?_cons_zero]; rfl) (by kernel_rfl) (by kernel_rfl) (by kernel_rfl) (fun _ _ _ h => h) (Or.inl ⟨by kernel_rfl, ?hyc2V23⟩) (by assumption) ?restc2V23; (case hyc2V23 => ((intro w' hSw); (try dsimp only at hSw); go_simp; (try with_reducible rfl))); try go_frame)
              (refine wpAnyH_take (i := 24) (v := ?vc2V24) (by simp only [List.getElem?_toArray, List.getElem?_cons_succ, List.getElem?_cons_zero]; rfl) (by kernel_rfl) (by kernel_rfl) (by kernel_rfl) (fun _ _ _ h => h) (Or.inl ⟨by kernel_rfl, ?hyc2V24⟩) (by assumption) ?restc2V24; (case hyc2V24 => ((intro w' hSw); (try dsimp only at hSw); go_simp; (try with_reducible rfl))); try go_frame)
              (refine wpAnyH_take (i := 25) (v := ?vc2V25) (by simp only [List.getElem?_toArray, List.getElem?_cons_succ, List.getElem?_cons_zero]; rfl) (by kernel_rfl) (by kernel_rfl) (by kernel_rfl) (fun _ _ _ h => h) (Or.inl ⟨by kernel_rfl, ?hyc2V25⟩) (by assumption) ?restc2V25; (case hyc2V25 => ((intro w' hSw); (try dsimp only at hSw); go_simp; (try with_reducible rfl))); try go_frame)
              (refine wpAnyH_take (i := 26) (v := ?vc2V26) (by simp only [List.getElem?_toArray, List.getElem?_cons_succ, List.getElem?_cons_zero]; rfl) (by kernel_rfl) (by kernel_rfl) (by kernel_rfl) (fun _ _ _ h => h) (Or.inl ⟨by kernel_rfl, ?hyc2V26⟩) (by assumption) ?restc2V26; (case hyc2V26 => ((intro w' hSw); (try dsimp only at hSw); go_simp; (try with_reducible rfl))); try go_frame)
              (refine wpAnyH_take (i := 27) (v := ?vc2V27) (by simp only [List.getElem?_toArray, List.getElem?_cons_succ, List.getElem?_cons_zero]; rfl) (by kernel_rfl) (by kernel_rfl) (by kernel_rfl) (fun _ _ _ h => h) (Or.inl ⟨by kernel_rfl, ?hyc2V27⟩) (by assumption) ?restc2V27; (case hyc2V27 => ((intro w' hSw); (try dsimp only at hSw); go_simp; (try with_reducible rfl))); try go_frame)
              (refine wpAnyH_take (i := 28) (v := ?vc2V28) (by simp only [List.getElem?_toArray, List.getElem?_cons_succ, List.getElem?_cons_zero]; rfl) (by kernel_rfl) (by kernel_rfl) (by kernel_rfl) (fun _ _ _ h => h) (Or.inl ⟨by kernel_rfl, ?hyc2V28⟩) (by assumption) ?restc2V28; (case hyc2V28 => ((intro w' hSw); (try dsimp only at hSw); go_simp; (try with_reducible rfl))); try go_frame)
              (refine wpAnyH_take (i := 29) (v := ?vc2V29) (by simp only [List.getElem?_toArray, List.getElem?_cons_succ, List.getElem?_cons_zero]; rfl) (by kernel_rfl) (by kernel_rfl) (by kernel_rfl) (fun _ _ _ h => h) (Or.inl ⟨by kernel_rfl, ?hyc2V29⟩) (by assumption) ?restc2V29; (case hyc2V29 => ((intro w' hSw); (try dsimp only at hSw); go_simp; (try with_reducible rfl))); try go_frame)
              (refine wpAnyH_take (i := 30) (v := ?vc2V30) (by simp only [List.getElem?_toArray, List.getElem?_cons_succ, List.getElem?_cons_zero]; rfl) (by kernel_rfl) (by kernel_rfl) (by kernel_rfl) (fun _ _ _ h => h) (Or.inl ⟨by kernel_rfl, ?hyc2V30⟩) (by assumption) ?restc2V30; (case hyc2V30 => ((intro w' hSw); (try dsimp only at hSw); go_simp; (try with_reducible rfl))); try go_frame)
              (refine wpAnyH_take (i := 31) (v := ?vc2V31) (by simp only [List.getElem?_toArray, List.getElem?_cons_succ, List.getElem?_cons_zero]; rfl) (by kernel_rfl) (by kernel_rfl) (by kernel_rfl) (fun _ _ _ h => h) (Or.inl ⟨by kernel_rfl, ?hyc2V31⟩) (by assumption) ?restc2V31; (case hyc2V31 => ((intro w' hSw); (try dsimp only at hSw); go_simp; (try with_reducible rfl))); try go_frame)
              (refine wpAnyH_take (i := 32) (v := ?vc2V32) (by simp only [List.getElem?_toArray, List.getElem?_cons_succ, List.getElem?_cons_zero]; rfl) (by kernel_rfl) (by kernel_rfl) (by kernel_rfl) (fun _ _ _ h => h) (Or.inl ⟨by kernel_rfl, ?hyc2V32⟩) (by assumption) ?restc2V32; (case hyc2V32 => ((intro w' hSw); (try dsimp only at hSw); go_simp; (try with_reducible rfl))); try go_frame)
              (refine wpAnyH_take (i := 33) (v := ?vc2V33) (by simp only [List.getElem?_toArray, List.getElem?_cons_succ, List.getElem?_cons_zero]; rfl) (by kernel_rfl) (by kernel_rfl) (by kernel_rfl) (fun _ _ _ h => h) (Or.inl ⟨by kernel_rfl, ?hyc2V33⟩) (by assumption) ?restc2V33; (case hyc2V33 => ((intro w' hSw); (try dsimp only at hSw); go_simp; (try with_reducible rfl))); try go_frame)
              (refine wpAnyH_take (i := 34) (v := ?vc2V34) (by simp only [List.getElem?_toArray, List.getElem?_cons_succ, List.getElem?_cons_zero]; rfl) (by kernel_rfl) (by kernel_rfl) (by kernel_rfl) (fun _ _ _ h => h) (Or.inl ⟨by kernel_rfl, ?hyc2V34⟩) (by assumption) ?restc2V34; (case hyc2V34 => ((intro w' hSw); (try dsimp only at hSw); go_simp; (try with_reducible rfl))); try go_frame)
              (refine wpAnyH_take (i := 35) (v := ?vc2V35) (by simp only [List.getElem?_toArray, List.getElem?_cons_succ, List.getElem?_cons_zero]; rfl) (by kernel_rfl) (by kernel_rfl) (by kernel_rfl) (fun _ _ _ h => h) (Or.inl ⟨by kernel_rfl, ?hyc2V35⟩) (by assumption) ?restc2V35; (case hyc2V35 => ((intro w' hSw); (try dsimp only at hSw); go_simp; (try with_reducible rfl))); try go_frame)
              (refine wpAnyH_take (i := 36) (v := ?vc2V36) (by simp only [List.getElem?_toArray, List.getElem?_cons_succ, List.getElem?_cons_zero]; rfl) (by kernel_rfl) (by kernel_rfl) (by kernel_rfl) (fun _ _ _ h => h) (Or.inl ⟨by kernel_rfl, ?hyc2V36⟩) (by assumption) ?restc2V36; (case hyc2V36 => ((intro w' hSw); (try dsimp only at hSw); go_simp; (try with_reducible rfl))); try go_frame)
              (refine wpAnyH_take (i := 37) (v := ?vc2V37) (by simp only [List.getElem?_toArray, List.getElem?_cons_succ, List.getElem?_cons_zero]; rfl) (by kernel_rfl) (by kernel_rfl) (by kernel_rfl) (fun _ _ _ h => h) (Or.inl ⟨by kernel_rfl, ?hyc2V37⟩) (by assumption) ?restc2V37; (case hyc2V37 => ((intro w' hSw); (try dsimp only at hSw); go_simp; (try with_reducible rfl))); try go_frame)
              (refine wpAnyH_take (i := 38) (v := ?vc2V38) (by simp only [List.getElem?_toArray, List.getElem?_cons_succ, List.getElem?_cons_zero]; rfl) (by kernel_rfl) (by kernel_rfl) (by kernel_rfl) (fun _ _ _ h => h) (Or.inl ⟨by kernel_rfl, ?hyc2V38⟩) (by assumption) ?restc2V38; (case hyc2V38 => ((intro w' hSw); (try dsimp only at hSw); go_simp; (try with_reducible rfl))); try go_frame)
              (refine wpAnyH_take (i := 39) (v := ?vc2V39) (by simp only [List.getElem?_toArray, List.getElem?_cons_succ, List.getElem?_cons_zero]; rfl) (by kernel_rfl) (by kernel_rfl) (by kernel_rfl) (fun _ _ _ h => h) (Or.inl ⟨by kernel_rfl, ?hyc2V39⟩) (by assumption) ?restc2V39; (case hyc2V39 => ((intro w' hSw); (try dsimp only at hSw); go_simp; (try with_reducible rfl))); try go_frame)
              (refine wpAnyH_take (i := 40) (v := ?vc2V40) (by simp only [List.getElem?_toArray, List.getElem?_cons_succ, List.getElem?_cons_zero]; rfl) (by kernel_rfl) (by kernel_rfl) (by kernel_rfl) (fun _ _ _ h => h) (Or.inl ⟨by kernel_rfl, ?hyc2V40⟩) (by assumption) ?restc2V40; (case hyc2V40 => ((intro w' hSw); (try dsimp only at hSw); go_simp; (try with_reducible rfl))); try go_frame)
              (refine wpAnyH_take (i := 41) (v := ?vc2V41) (by simp only [List.getElem?_toArray, List.getElem?_cons_succ, List.getElem?_cons_zero]; rfl) (by kernel_rfl) (by kernel_rfl) (by kernel_rfl) (fun _ _ _ h => h) (Or.inl ⟨by kernel_rfl, ?hyc2V41⟩) (by assumption) ?restc2V41; (case hyc2V41 => ((intro w' hSw); (try dsimp only at hSw); go_simp; (try with_reducible rfl))); try go_frame)
              (refine wpAnyH_take (i := 42) (v := ?vc2V42) (by simp only [List.getElem?_toArray, List.getElem?_cons_succ, List.getElem?_cons_zero]; rfl) (by kernel_rfl) (by kernel_rfl) (by kernel_rfl) (fun _ _ _ h => h) (Or.inl ⟨by kernel_rfl, ?hyc2V42⟩) (by assumption) ?restc2V42; (case hyc2V42 => ((intro w' hSw); (try dsimp only at hSw); go_simp; (try with_reducible rfl))); try go_frame)
              (refine wpAnyH_take (i := 43) (v := ?vc2V43) (by simp only [List.getElem?_toArray, List.getElem?_cons_succ, List.getElem?_cons_zero]; rfl) (by kernel_rfl) (by kernel_rfl) (by kernel_rfl) (fun _ _ _ h => h) (Or.inl ⟨by kernel_rfl, ?hyc2V43⟩) (by assumption) ?restc2V43; (case hyc2V43 => ((intro w' hSw); (try dsimp only at hSw); go_simp; (try with_reducible rfl))); try go_frame)
              refine wpAnyH_done (by kernel_rfl) ?_ _
              refine NoPanic.normal ?_
              go_wp2
              all_goals
                first
                  | (go_roundw
                     case rel =>
                       have hq : t.id = 2 * ((j : Int) + 1) + 1 := by simpa using ‹(t.id != 2 * ((j : Int) + 1) + 1) = false›
                       refine ⟨(j + 1) + 1, by omega, by go_num, ?_, blkF (hBelV _ (by assumption)) HRK.out, btF HBK.out (hBelV _ (by assumption))⟩
                       rw [HSO.out, HAT.out]
                       simp [HSK.out, HP.out, HA.out, hq, (by rw [← hq]; exact HID.out : p.id < 2 * ((j : Int) + 1) + 1)]
                     case measure => simp [intOf]; omega)
                  | (go_ret
                     have hq : ¬ t.id = 2 * ((j : Int) + 1) + 1 := by simpa using ‹(t.id != 2 * ((j : Int) + 1) + 1) = true›
                     refine ⟨?_, btF HBK.out (hBelV _ (by assumption))⟩
                     have hend : edOk e = false := by
                       unfold edOk
                       rw [HSO.out, HAT.out]
                       simp [HSK.out, HP.out, HID.out, HA.out, hq]
                     rw [hend]
                     rfl)
    · have hlt' : ¬ (k : Int) < n := by omega
      have HS : Hid (smsOk e.ans 0 0 e.sts = true) := by
        have h := HSO.out
        rw [List.drop_of_length_le (by rw [HN.out]; omega)] at h
        exact h
      clear k4 k0
      have k9 := cellE HRK.out 9 (.slice aq m cq) rfl
      have k6 := cellE HRK.out 6 (.slice a n c) rfl
      have hz0 := HRK.out
      have hz1 := HBK.out
      clear HSO HRK HBK
      go_wp2
      go_loopw [4] (fun i4 wz => ∃ k2 : Nat, k2 ≤ m ∧ i4 = .int .i64 k2 ∧ e.wait.all frOk = (e.wait.drop k2).all frOk ∧ wz.heap[w.heap.size]? = some (.cells (edC e (.slice ao no co) (.slice ai ni ci) (.slice a n c) (.slice aq m cq)) 30 (0, 0)) ∧ Below w.heap.size w wz) (fun i4 _ => m - (intOf i4).toNat)
      case atStart => exact ⟨0, Nat.zero_le _, rfl, rfl, hz0, hz1⟩
      case round =>
        clear k9 k6 hz0 hz1
        obtain ⟨k2, hk2, rfl, hall, hRz, hBz⟩ := hrel
        have HAL : Hid _ := hall
        have hz9 := cellE hRz 9 (.slice aq m cq) rfl
        clear hall
        by_cases hl2 : k2 < m
        · have hl2' : (k2 : Int) < m := by omega
          have hk20 : (0 : Int) ≤ k2 := by omega
          obtain ⟨f, hf⟩ : ∃ f, e.wait[k2]? = some f := ⟨_, List.getElem?_eq_getElem (by rw [HM.out]; exact hl2)⟩
          rcases HRQ.out.form with ⟨_, h, _⟩ | ⟨gq, oq, rfl⟩
          · omega
          have HRG : Hid _ := rangeAt_below (HRQ.out.range (ys := frC f) (cellsFr_range e.wait k2 f hf)) hBz
          have hfr := fun w => specFrameOk f w (HBD.out.wait f (List.mem_of_getElem? hf))
          have HDR : Hid ((e.wait.drop k2).all frOk = (frOk f && (e.wait.drop (k2 + 1)).all frOk)) := by
            obtain ⟨hlt3, e3⟩ := List.getElem?_eq_some_iff.1 hf
            show (e.wait.drop k2).all frOk = (frOk f && (e.wait.drop (k2 + 1)).all frOk)
            rw [List.drop_eq_getElem_cons hlt3, e3, List.all_cons]
          have HRz : Hid _ := hRz
          have HBz : Hid _ := hBz
          clear hRz hBz hf
          unfold Fr.val at hfr
          cases hfk : frOk f with
          | false =>
            rw [hfk] at hfr
            have HFK : Hid _ := hfk
            clear hfk
            go_wp2_with (first | (refine wpList_load_mid rfl 73 _ rfl gq (oq + k2 * 4) rfl (frC f) _ HRG.out Try.underlying73 rfl infoFrE ?_) | (go_at_call 38; refine (hfr _).mono ?_; rintro r w3 ⟨rfl, hb3⟩))
            go_ret
            refine ⟨?_, btF HBz.out hb3⟩
            have hend : edOk e = false := by
              unfold edOk
              rw [HAL.out, HDR.out]
              simp [HFK.out]
            rw [hend]
            rfl
          | true =>
            rw [hfk] at hfr
            have HFK : Hid _ := hfk
            clear hfk
            go_wp2_with (first | (refine wpList_load_mid rfl 73 _ rfl gq (oq + k2 * 4) rfl (frC f) _ HRG.out Try.underlying73 rfl infoFrE ?_) | (go_at_call 38; refine (hfr _).mono ?_; rintro r w3 ⟨rfl, hb3⟩))
            go_roundw
            case rel => exact ⟨k2 + 1, by omega, by go_num, by rw [HAL.out, HDR.out, HFK.out, Bool.true_and], blkF hb3 HRz.out, btF HBz.out hb3⟩
            case measure => simp [intOf]; omega
        · have hl2' : ¬ (k2 : Int) < m := by omega
          have HALL : Hid (e.wait.all frOk = true) := by
            have h := HAL.out
            rw [List.drop_of_length_le (by rw [HM.out]; omega)] at h
            exact h
          clear HAL
          have hto := fun (W : World) (h : Fs W ao no co e.out) => specTableOk e.out ao no co e.outM W h HBD.out.out (by have := HBD.out.outn; have := h.len; omega)
          have hti := fun (W : World) (h : Fs W ai ni ci e.inn) => specTableOk e.inn ai ni ci e.innM W h HBD.out.inn (by have := HBD.out.innn; have := h.len; omega)
          have hfl := fun w => specFlowOk e.fl w
          have hcz := HBD.out.came
          unfold maxLen at hcz
          unfold Fw.val at hfl
          have HEQ : Hid (edOk e = (tOk e.out e.outM && (tOk e.inn e.innM && (flOk e.fl && (decide (e.came.size ≤ 600) && decide (e.wait.length ≤ 60)))))) := by
            show edOk e = (tOk e.out e.outM && (tOk e.inn e.innM && (flOk e.fl && (decide (e.came.size ≤ 600) && decide (e.wait.length ≤ 60)))))
            unfold edOk
            rw [HS.out, HALL.out, Bool.true_and, Bool.true_and]
          cases h0 : tOk e.out e.outM with
          | false =>
            have H0 : Hid _ := h0
            rw [h0] at hto
            clear h0
            have e0_1 := cellE hRz 1 (.slice ao no co) rfl
            have e0_2 := cellE hRz 2 (.int .i64 e.outM) rfl
            go_wp2_with fail
            refine (hto _ (HFO.out.below hBz)).mono ?_
            rintro r z0 ⟨rfl, hb⟩
            clear e0_1 e0_2
            replace hRz := blkF hb hRz
            replace hBz := btF hBz hb
            clear hb
            go_wp2
            go_ret
            refine ⟨?_, hBz⟩
            rw [HEQ.out]
            simp [H0.out]
            try rfl
          | true =>
            have H0 : Hid _ := h0
            rw [h0] at hto
            clear h0
            cases h1 : tOk e.inn e.innM with
            | false =>
              have H1 : Hid _ := h1
              rw [h1] at hti
              clear h1
              have e0_1 := cellE hRz 1 (.slice ao no co) rfl
              have e0_2 := cellE hRz 2 (.int .i64 e.outM) rfl
              go_wp2_with fail
              refine (hto _ (HFO.out.below hBz)).mono ?_
              rintro r z0 ⟨rfl, hb⟩
              clear e0_1 e0_2
              replace hRz := blkF hb hRz
              replace hBz := btF hBz hb
              clear hb
              have e1_3 := cellE hRz 3 (.slice ai ni ci) rfl
              have e1_4 := cellE hRz 4 (.int .i64 e.innM) rfl
              go_wp2_with fail
              refine (hti _ (HFI.out.below hBz)).mono ?_
              rintro r z1 ⟨rfl, hb⟩
              clear e1_3 e1_4
              replace hRz := blkF hb hRz
              replace hBz := btF hBz hb
              clear hb
              go_wp2
              go_ret
              refine ⟨?_, hBz⟩
              rw [HEQ.out]
              simp [H0.out, H1.out]
              try rfl
            | true =>
              have H1 : Hid _ := h1
              rw [h1] at hti
              clear h1
              cases h2 : flOk e.fl with
              | false =>
                have H2 : Hid _ := h2
                rw [h2] at hfl
                clear h2
                have e0_1 := cellE hRz 1 (.slice ao no co) rfl
                have e0_2 := cellE hRz 2 (.int .i64 e.outM) rfl
                go_wp2_with fail
                refine (hto _ (HFO.out.below hBz)).mono ?_
                rintro r z0 ⟨rfl, hb⟩
                clear e0_1 e0_2
                replace hRz := blkF hb hRz
                replace hBz := btF hBz hb
                clear hb
                have e1_3 := cellE hRz 3 (.slice ai ni ci) rfl
                have e1_4 := cellE hRz 4 (.int .i64 e.innM) rfl
                go_wp2_with fail
                refine (hti _ (HFI.out.below hBz)).mono ?_
                rintro r z1 ⟨rfl, hb⟩
                clear e1_3 e1_4
                replace hRz := blkF hb hRz
                replace hBz := btF hBz hb
                clear hb
                have e2_7 := cellE hRz 7 (.int .i64 e.fl.s) rfl
                have e2_8 := cellE hRz 8 (.int .i64 e.fl.r) rfl
                go_wp2_with fail
                refine (hfl _).mono ?_
                rintro r z2 ⟨rfl, hb⟩
                clear e2_7 e2_8
                replace hRz := blkF hb hRz
                replace hBz := btF hBz hb
                clear hb
                go_wp2
                go_ret
                refine ⟨?_, hBz⟩
                rw [HEQ.out]
                simp [H0.out, H1.out, H2.out]
                try rfl
              | true =>
                have H2 : Hid _ := h2
                rw [h2] at hfl
                clear h2
                by_cases h3 : (e.came.size : Int) ≤ 600
                · have H3 : Hid ((e.came.size : Int) ≤ 600) := h3
                  by_cases h4 : (m : Int) ≤ 60
                  · have H4 : Hid ((m : Int) ≤ 60) := h4
                    have e0_1 := cellE hRz 1 (.slice ao no co) rfl
                    have e0_2 := cellE hRz 2 (.int .i64 e.outM) rfl
                    go_wp2_with fail
                    refine (hto _ (HFO.out.below hBz)).mono ?_
                    rintro r z0 ⟨rfl, hb⟩
                    clear e0_1 e0_2
                    replace hRz := blkF hb hRz
                    replace hBz := btF hBz hb
                    clear hb
                    have e1_3 := cellE hRz 3 (.slice ai ni ci) rfl
                    have e1_4 := cellE hRz 4 (.int .i64 e.innM) rfl
                    go_wp2_with fail
                    refine (hti _ (HFI.out.below hBz)).mono ?_
                    rintro r z1 ⟨rfl, hb⟩
                    clear e1_3 e1_4
                    replace hRz := blkF hb hRz
                    replace hBz := btF hBz hb
                    clear hb
                    have e2_7 := cellE hRz 7 (.int .i64 e.fl.s) rfl
                    have e2_8 := cellE hRz 8 (.int .i64 e.fl.r) rfl
                    go_wp2_with fail
                    refine (hfl _).mono ?_
                    rintro r z2 ⟨rfl, hb⟩
                    clear e2_7 e2_8
                    replace hRz := blkF hb hRz
                    replace hBz := btF hBz hb
                    clear hb
                    have e3_5 := cellE hRz 5 (.string e.came) rfl
                    have e4_9 := cellE hRz 9 (.slice aq m cq) rfl
                    go_wp2
                    go_ret
                    refine ⟨?_, hBz⟩
                    rw [HEQ.out]
                    have g3 : decide (e.came.size ≤ 600) = true := by simpa using (by have := H3.out; omega : e.came.size ≤ 600)
                    have g4 : decide (e.wait.length ≤ 60) = true := by rw [HM.out]; simpa using (by have := H4.out; omega : m ≤ 60)
                    rw [H0.out, H1.out, H2.out, g3, g4]
                    rfl
                  · have H4 : Hid (¬ (m : Int) ≤ 60) := h4
                    have e0_1 := cellE hRz 1 (.slice ao no co) rfl
                    have e0_2 := cellE hRz 2 (.int .i64 e.outM) rfl
                    go_wp2_with fail
                    refine (hto _ (HFO.out.below hBz)).mono ?_
                    rintro r z0 ⟨rfl, hb⟩
                    clear e0_1 e0_2
                    replace hRz := blkF hb hRz
                    replace hBz := btF hBz hb
                    clear hb
                    have e1_3 := cellE hRz 3 (.slice ai ni ci) rfl
                    have e1_4 := cellE hRz 4 (.int .i64 e.innM) rfl
                    go_wp2_with fail
                    refine (hti _ (HFI.out.below hBz)).mono ?_
                    rintro r z1 ⟨rfl, hb⟩
                    clear e1_3 e1_4
                    replace hRz := blkF hb hRz
                    replace hBz := btF hBz hb
                    clear hb
                    have e2_7 := cellE hRz 7 (.int .i64 e.fl.s) rfl
                    have e2_8 := cellE hRz 8 (.int .i64 e.fl.r) rfl
                    go_wp2_with fail
                    refine (hfl _).mono ?_
                    rintro r z2 ⟨rfl, hb⟩
                    clear e2_7 e2_8
                    replace hRz := blkF hb hRz
                    replace hBz := btF hBz hb
                    clear hb
                    have e3_5 := cellE hRz 5 (.string e.came) rfl
                    have e4_9 := cellE hRz 9 (.slice aq m cq) rfl
                    go_wp2
                    go_ret
                    refine ⟨?_, hBz⟩
                    rw [HEQ.out]
                    have g3 : decide (e.came.size ≤ 600) = true := by simpa using (by have := H3.out; omega : e.came.size ≤ 600)
                    have g4 : decide (e.wait.length ≤ 60) = false := by rw [HM.out]; simpa using (by have := H4.out; omega : 60 < m)
                    rw [H0.out, H1.out, H2.out, g3, g4]
                    show Ending.returned (.bool (decide ((m : Int) ≤ 60))) = _
                    rw [decide_eq_false (show ¬ (m : Int) ≤ 60 by have := H4.out; omega)]
                    rfl
                · have H3 : Hid (¬ (e.came.size : Int) ≤ 600) := h3
                  have e0_1 := cellE hRz 1 (.slice ao no co) rfl
                  have e0_2 := cellE hRz 2 (.int .i64 e.outM) rfl
                  go_wp2_with fail
                  refine (hto _ (HFO.out.below hBz)).mono ?_
                  rintro r z0 ⟨rfl, hb⟩
                  clear e0_1 e0_2
                  replace hRz := blkF hb hRz
                  replace hBz := btF hBz hb
                  clear hb
                  have e1_3 := cellE hRz 3 (.slice ai ni ci) rfl
                  have e1_4 := cellE hRz 4 (.int .i64 e.innM) rfl
                  go_wp2_with fail
                  refine (hti _ (HFI.out.below hBz)).mono ?_
                  rintro r z1 ⟨rfl, hb⟩
                  clear e1_3 e1_4
                  replace hRz := blkF hb hRz
                  replace hBz := btF hBz hb
                  clear hb
                  have e2_7 := cellE hRz 7 (.int .i64 e.fl.s) rfl
                  have e2_8 := cellE hRz 8 (.int .i64 e.fl.r) rfl
                  go_wp2_with fail
                  refine (hfl _).mono ?_
                  rintro r z2 ⟨rfl, hb⟩
                  clear e2_7 e2_8
                  replace hRz := blkF hb hRz
                  replace hBz := btF hBz hb
                  clear hb
                  have e3_5 := cellE hRz 5 (.string e.came) rfl
                  go_wp2
                  go_ret
                  refine ⟨?_, hBz⟩
                  rw [HEQ.out]
                  have g3 : decide (e.came.size ≤ 600) = false := by simpa using (by have := H3.out; omega : 600 < e.came.size)
                  rw [H0.out, H1.out, H2.out, g3]
                  rfl
end Go.Proofs.Ytdnajdobmlgmiaa
