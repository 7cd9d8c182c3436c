import Derived.Test.YtdnajdobmlgmiaaEnE
import Derived.Test.YtdnajdobmlgmiaaCC
import Derived.Deep.RegionHeld3
import Derived.Maps.RangeWalk
namespace Go.Proofs.Ytdnajdobmlgmiaa
open Go.RowKit
set_option linter.unusedVariables false

set_option maxRecDepth 100000 in
set_option maxHeartbeats 8000000 in
theorem endWaitOk_any (l : List Fr) (v : Value) (w : World) (h1 : RdRow w 4 v l.length (cellsFr l)) (hl : l.length ≤ 1048576) (hbd : ∀ f ∈ l, f.b.size ≤ maxLen) :
    Calls Try.prog 46 #[v] w fun r w' => r = .returned (.bool (decide (l.length ≤ 60) && l.all frOk)) ∧ Below w.heap.size w w' := by
  obtain ⟨a, c, rfl, r1⟩ := h1
  have HR1 : Hid _ := r1
  have HBD : Hid (∀ f ∈ l, f.b.size ≤ maxLen) := hbd
  clear r1 hbd
  by_cases h60 : l.length ≤ 60
  · have hd60 : decide (l.length ≤ 60) = true := by simpa using h60
    have h60' : ¬ (60 : Int) < l.length := by omega
    have hd : decide ((60 : Int) < l.length) = false := by rw [decide_eq_false_iff_not]; exact h60'
    rw [hd60, Bool.true_and]
    clear hd60
    obtain ⟨R, hR⟩ : ∃ R, l.all frOk = R := ⟨_, rfl⟩
    have HALL : Hid (l.all frOk = R) := hR
    rw [hR]
    clear hR
    go_enter Try.func46, Try.ntmps46
    go_wp2
    go_loopw [10] (fun i wr => ∃ k : Nat, k ≤ l.length ∧ i = .int .i64 k ∧ (l.take k).all frOk = true ∧ Below w.heap.size w wr) (fun i _ => l.length - (intOf i).toNat)
    case atStart => exact ⟨0, by omega, rfl, rfl, Below.refl _ _⟩
    case round =>
      obtain ⟨k, hk, rfl, hok, hbel⟩ := hrel
      have HOK : Hid _ := hok
      have HBEL : Hid _ := hbel
      clear hok
      by_cases hlt : k < l.length
      · have hlt' : (k : Int) < l.length := by omega
        have hk0 : (0 : Int) ≤ k := by omega
        obtain ⟨s, hff⟩ : ∃ s, l[k]? = some s := ⟨_, List.getElem?_eq_getElem hlt⟩
        obtain ⟨g, o, rfl, hr1⟩ := rd_at (HR1.out.below hbel) (ys := frV4 s) (by show k * 4 + 4 ≤ l.length * 4; omega) (by show 0 < 4; omega) (fun j hj => cellsFr_rng l k s hff j hj)
        have HX1 : Hid _ := hr1
        have HST : Hid (l.take (k + 1) = l.take k ++ [s]) := by
          show _ = _
          rw [List.take_add_one, hff]
          rfl
        have HFF : Hid _ := hff
        have hfr := fun W => implFrameOk s W (HBD.out s (List.mem_of_getElem? hff))
        unfold Fr.val at hfr
        have HONE : Hid ((frV4 s).toArray.all (·.oneCell') = true) := by show _ = true; simp [frV4, Value.oneCell']
        clear hff hr1 hbel
        have HB2 : Hid (Below wr.heap.size wr (wr.alloc (.cells (frV4 s).toArray 73))) := (Below.refl _ _).alloc (Nat.le_refl _) _
        have hA : Hid _ := heap_alloc_last wr (.cells (frV4 s).toArray 73)
        go_upto_region 6 with (first | (refine wpList_load_mid rfl 73 _ rfl g (o + k * 4) rfl (frV4 s) _ HX1.out Try.underlying73 rfl infoFrI ?_) | (refine wpList_store_row rfl 73 _ _ rfl wr.heap.size (frV4 s).toArray rfl rfl 73 _ (heap_alloc_last _ _) infoFrI rfl HONE.out ?_; rw [World.setRow_alloc_new]))
        refine wabsW (fun V => V.heap[wr.heap.size]? = some (.cells (frV4 s).toArray 73 (0, 0)) ∧ Below w.heap.size w V) ⟨hA.out, btF HBEL.out HB2.out⟩ ?_
        clear HB2 hA HX1 HBEL
        rintro V ⟨v1, v2⟩
        have HV1 : Hid _ := v1
        have HBEL : Hid _ := v2
        clear v1 v2
        cases hE : frOk s with
        | true =>
          rw [hE] at hfr
          have HE : Hid _ := hE
          clear hE
          go_wp2_with (first | (refine wpList_load_row rfl 73 _ rfl wr.heap.size rfl 73 (frV4 s).toArray (0, 0) _ HV1.out Try.underlying73 rfl infoFrI ?_) | (go_at_call 69; refine (hfr _).mono ?_; clear hfr; rintro r w2 ⟨rfl, hb2⟩))
          have HB3 : Hid _ := btF HBEL.out hb2
          clear hb2
          go_roundw
          case rel => exact ⟨k + 1, by omega, by go_num, by rw [HST.out, List.all_append, HOK.out]; simp [HE.out], HB3.out⟩
          case measure => simp [intOf]; omega
        | false =>
          rw [hE] at hfr
          have HE : Hid _ := hE
          clear hE
          go_wp2_with (first | (refine wpList_load_row rfl 73 _ rfl wr.heap.size rfl 73 (frV4 s).toArray (0, 0) _ HV1.out Try.underlying73 rfl infoFrI ?_) | (go_at_call 69; refine (hfr _).mono ?_; clear hfr; rintro r w2 ⟨rfl, hb2⟩))
          have hR : R = false := by
            rw [← HALL.out, List.all_eq_false]
            exact ⟨s, List.mem_of_getElem? HFF.out, by simp [HE.out]⟩
          go_ret
          exact ⟨by rw [hR]; rfl, btF HBEL.out hb2⟩
      · have hall : l.take k = l := List.take_of_length_le (by omega)
        have hR : R = true := by rw [← HALL.out, ← hall]; exact HOK.out
        clear hall
        go_wp2
        go_ret
        exact ⟨by rw [hR]; rfl, hbel⟩
  · have hd60 : decide (l.length ≤ 60) = false := by rw [decide_eq_false_iff_not]; exact h60
    have h60' : (60 : Int) < l.length := by omega
    rw [hd60, Bool.false_and]
    clear hd60
    go_enter Try.func46, Try.ntmps46
    go_wp2
    go_ret
    exact ⟨rfl, Below.refl _ _⟩
theorem streamIdAt_any (k : Nat) (w : World) (hk : k ≤ 1048576) :
    Calls Try.prog 67 #[.int .i64 k] w fun e w' => e = .returned (.int .i64 (2 * (k : Int) + 1)) ∧ Below w.heap.size w w' := by
  have h1 : IntKind.i64.wrap (2 * (k : Int)) = 2 * (k : Int) := by rw [IntKind.wrap_i64]; omega
  have h2 : IntKind.i64.wrap (2 * (k : Int) + 1) = 2 * (k : Int) + 1 := by rw [IntKind.wrap_i64]; omega
  go_enter Try.func67, Try.ntmps67
  go_wp2
  go_ret
  exact ⟨rfl, Below.refl _ _⟩

set_option maxRecDepth 100000 in
set_option maxHeartbeats 80000000 in
theorem endStreamsOk_any (e : Ed) (o i s q : Value) (w : World) (he : EdV w e o i s q) (hbd : EdBd e) :
    Calls Try.prog 45 #[.agg (edC e o i s q)] w fun r w' => r = .returned (.bool (smsOk e.ans 0 0 e.sts)) ∧ Below w.heap.size w w' := by
  have hB : Below w.heap.size w (w.alloc (.cells (edC e o i s q) 30)) := (Below.refl _ _).alloc (Nat.le_refl _) _
  have hR : (w.alloc (.cells (edC e o i s q) 30)).heap[w.heap.size]? = some (.cells (edC e o i s q) 30 (0, 0)) := heap_alloc_last w _
  obtain ⟨xs, ⟨a, c, rfl, hrw⟩, hsm⟩ := he.sts
  have hln := hbd.n
  have HRW : Hid (Rw w a e.sts.length c 12 xs) := hrw
  have HSM : Hid (SmL (Fs w) e.sts xs) := hsm
  have HBD : Hid _ := hbd
  clear he hrw hsm hbd
  obtain ⟨n, hn⟩ : ∃ n, e.sts.length = n := ⟨_, rfl⟩
  have HN : Hid (e.sts.length = n) := hn
  have HE : Hid (edC e o i (.slice a e.sts.length c) q = edC e o i (.slice a n c) q) := by rw [hn]; rfl
  rw [HE.out] at hR hB
  rw [HE.out]
  rw [hn] at HRW hln
  obtain ⟨R, hRR⟩ : ∃ R, smsOk e.ans 0 0 e.sts = R := ⟨_, rfl⟩
  have HR0 : Hid (smsOk e.ans 0 0 e.sts = R) := hRR
  rw [hRR]
  have q4 := cellE hR 6 (.slice a n c) rfl
  have HR : Hid _ := hR
  have HB : Hid _ := hB
  clear hR hB hn hRR
  have hmx : Try.prog.follows .mixedOrders = true := by kernel_rfl
  go_enter Try.func45, Try.ntmps45
  go_wp2
  go_loopw [3, 9] (fun l3 i3 wr => ∃ k : Nat, k ≤ n ∧ i3 = .int .i64 k ∧ l3 = .int .i64 (pid e.sts k) ∧ smsOk e.ans (pid e.sts k) k (e.sts.drop k) = R ∧ wr.heap[w.heap.size]? = some (.cells (edC e o i (.slice a n c) q) 30 (0, 0)) ∧ Below w.heap.size w wr) (fun _ i3 _ => n - (intOf i3).toNat)
  case atStart => exact ⟨0, Nat.zero_le _, rfl, rfl, HR0.out, HR.out, HB.out⟩
  case round =>
    obtain ⟨k, hk, rfl, rfl, hso, hRk, hBk⟩ := hrel
    have HSO : Hid _ := hso
    have HRK : Hid _ := hRk
    have HBK : Hid _ := hBk
    clear hso hRk hBk q4
    by_cases hlt : k < n
    · have hlt' : (k : Int) < n := by omega
      have hk0 : (0 : Int) ≤ k := by omega
      obtain ⟨t, ht⟩ : ∃ t, e.sts[k]? = some t := ⟨_, List.getElem?_eq_getElem (by rw [HN.out]; exact hlt)⟩
      have HAT : Hid _ := smsOk_at e.ans e.sts k t ht
      have HPID : Hid (pid e.sts (k + 1) = t.id) := by show (match e.sts[k]? with | none => 0 | some s => s.id) = t.id; rw [ht]
      obtain ⟨ah, nh, ch, ag, ng, cg, hfh, hfg, hc⟩ := HSM.out.at k t ht
      obtain ⟨g, oo, rfl, hrg⟩ := rd_at HRW.out (ys := smC t (.slice ah nh ch) (.slice ag ng cg)) (by show k * 12 + 12 ≤ n * 12; omega) (by show 0 < 12; omega) (fun j hj => hc j hj)
      have HRG : Hid _ := range_below hrg HBK.out
      have HK : Hid (Fs w ah nh ch t.head ∧ Fs w ag ng cg t.got) := ⟨hfh, hfg⟩
      have hst := fun (W : World) (h1 : Fs W ah nh ch t.head) (h2 : Fs W ag ng cg t.got) => streamOk_any t ah ag nh ch ng cg W h1 h2 (HBD.out.sts t (List.mem_of_getElem? ht))
      have hid := fun (W : World) => streamIdAt_any k W (by omega)
      have HP0 : Hid (k = 0 → pid e.sts k = 0) := fun h => by subst h; rfl
      have HSI : Hid (smOk t = true → 1 ≤ t.id) := fun h => by
        unfold smOk strm at h
        simp at h
        omega
      have HONE : Hid _ := all_oneCell_toArray (smC_one t ah ag nh ch ng cg)
      obtain ⟨p, hp⟩ : ∃ p, pid e.sts k = p := ⟨_, rfl⟩
      rw [hp] at HSO HAT HP0
      rw [hp]
      have hA : Hid _ := heap_alloc_last wr (.cells (smC t (.slice ah nh ch) (.slice ag ng cg)).toArray 70)
      have HB2 : Hid (Below wr.heap.size wr (wr.alloc (.cells (smC t (.slice ah nh ch) (.slice ag ng cg)).toArray 70))) := (Below.refl _ _).alloc (Nat.le_refl _) _
      clear hfh hfg hc ht hrg hp
      go_upto_region 5 with (first | (refine wpList_load_mid rfl 70 _ rfl g (oo + k * 12) rfl (smC t (.slice ah nh ch) (.slice ag ng cg)) _ HRG.out Try.underlying70 rfl infoSm ?_) | (refine wpList_store_row rfl 70 _ _ rfl wr.heap.size (smC t (.slice ah nh ch) (.slice ag ng cg)).toArray rfl rfl 70 _ (heap_alloc_last _ _) infoSm rfl HONE.out ?_; rw [World.setRow_alloc_new]))
      obtain ⟨P, hP⟩ : ∃ P, wr.heap.size = P := ⟨_, rfl⟩
      refine wabsW (fun V => V.heap[wr.heap.size]? = some (.cells (smC t (.slice ah nh ch) (.slice ag ng cg)).toArray 70 (0, 0)) ∧ V.heap[w.heap.size]? = some (.cells (edC e o i (.slice (some ⟨g, oo, none⟩) n c) q) 30 (0, 0)) ∧ Below wr.heap.size wr V) ⟨hA.out, blkF HB2.out HRK.out, HB2.out⟩ ?_
      rintro V ⟨v1, v2, v3⟩
      have HBV : Hid _ := btF HBK.out v3
      have HEB : Hid _ := v2
      have HFH : Hid (Fs V ah nh ch t.head) := HK.out.1.below HBV.out
      have HFG : Hid (Fs V ag ng cg t.got) := HK.out.2.below HBV.out
      rw [hP] at v1
      rw [hP]
      have HRP : Hid (V.rangeAt P 0 (smC t (.slice ah nh ch) (.slice ag ng cg))) := fun j v hv => by rw [Nat.zero_add]; exact cellE v1 j v (by simpa using hv)
      have p0 := cellE v1 0 (.int .i64 t.id) rfl
      have b0 := cellE v2 0 (.bool e.ans) rfl
      clear v1 v2 v3 hP hA HB2 HRG HRK HBK HRW HSM HK HONE
      by_cases hle : t.id ≤ p
      · have hd0 : decide (t.id ≤ p) = true := by simpa using hle
        have hkeepV : ∀ w1 w2 : World, Below w1.heap.size w1 w2 → (w1.cell? ⟨P, 0, none⟩ = some (.int .i64 t.id) ∧ w1.cell? ⟨w.heap.size, 0, none⟩ = some (.bool e.ans) ∧ Below V.heap.size V w1) → (w2.cell? ⟨P, 0, none⟩ = some (.int .i64 t.id) ∧ w2.cell? ⟨w.heap.size, 0, none⟩ = some (.bool e.ans) ∧ Below V.heap.size V w2) := by
          rintro w1 w2 hb ⟨h0, h1, hB⟩
          exact ⟨keepc hb h0, keepc hb h1, bt' hB hb⟩
        have hBelV : ∀ w' : World, (w'.cell? ⟨P, 0, none⟩ = some (.int .i64 t.id) ∧ w'.cell? ⟨w.heap.size, 0, none⟩ = some (.bool e.ans) ∧ Below V.heap.size V w') → Below V.heap.size V w' := fun w' h => h.2.2
        have hV0 : V.cell? ⟨P, 0, none⟩ = some (.int .i64 t.id) ∧ V.cell? ⟨w.heap.size, 0, none⟩ = some (.bool e.ans) ∧ Below V.heap.size V V := ⟨p0, b0, Below.refl _ _⟩
        clear p0 b0
        refine wp_region_noPanic ?_
        refine wp_region_held_drew (S := fun w' => w'.cell? ⟨P, 0, none⟩ = some (.int .i64 t.id) ∧ w'.cell? ⟨w.heap.size, 0, none⟩ = some (.bool e.ans) ∧ Below V.heap.size V w') (by kernel_rfl) ?_ (fun hHeld => ?_)
        · exact hkeepV _ _ ((Below.refl _ _).drew) hV0
        (refine wpAnyH_take (i := 0) (v := ?vaV0) (by simp only [List.getElem?_toArray, List.getElem?_cons_zero]; rfl) (by kernel_rfl) (by kernel_rfl) (by kernel_rfl) (fun _ _ _ h => h) (Or.inl ⟨by kernel_rfl, ?hyaV0⟩) (by assumption) ?restaV0; (case hyaV0 => ((intro w' hSw); (try dsimp only at hSw); go_simp; (try with_reducible rfl))); try go_frame)
        (refine wpAnyH_take (i := 1) (v := ?vaV1) (by simp only [List.getElem?_toArray, List.getElem?_cons_succ, List.getElem?_cons_zero]; rfl) (by kernel_rfl) (by kernel_rfl) (by kernel_rfl) (fun _ _ _ h => h) (Or.inl ⟨by kernel_rfl, ?hyaV1⟩) (by assumption) ?restaV1; (case hyaV1 => ((intro w' hSw); (try dsimp only at hSw); go_simp; (try with_reducible rfl))); try go_frame)
        (refine wpAnyH_take (i := 2) (v := ?vaV2) (by simp only [List.getElem?_toArray, List.getElem?_cons_succ, List.getElem?_cons_zero]; rfl) (by kernel_rfl) (by kernel_rfl) (by kernel_rfl) (fun _ _ _ h => h) (Or.inl ⟨by kernel_rfl, ?hyaV2⟩) (by assumption) ?restaV2; (case hyaV2 => ((intro w' hSw); (try dsimp only at hSw); go_simp; (try with_reducible rfl))); try go_frame)
        (refine wpAnyH_take (i := 3) (v := ?vaV3) (by simp only [List.getElem?_toArray, List.getElem?_cons_succ, List.getElem?_cons_zero]; rfl) (by kernel_rfl) (by kernel_rfl) (by kernel_rfl) (fun _ _ _ h => h) (Or.inl ⟨by kernel_rfl, ?hyaV3⟩) (by assumption) ?restaV3; (case hyaV3 => ((intro w' hSw); (try dsimp only at hSw); go_simp; (try with_reducible rfl))); try go_frame)
        (refine wpAnyH_take (i := 4) (v := ?vaV4) (by simp only [List.getElem?_toArray, List.getElem?_cons_succ, List.getElem?_cons_zero]; rfl) (by kernel_rfl) (by kernel_rfl) (by kernel_rfl) (fun _ _ _ h => h) (Or.inl ⟨by kernel_rfl, ?hyaV4⟩) (by assumption) ?restaV4; (case hyaV4 => ((intro w' hSw); (try dsimp only at hSw); go_simp; (try with_reducible rfl))); try go_frame)
        (refine wpAnyH_take (i := 5) (v := undef) (by simp only [List.getElem?_toArray, List.getElem?_cons_succ, List.getElem?_cons_zero]; rfl) (by kernel_rfl) (by kernel_rfl) (by kernel_rfl) (fun _ _ _ h => h) (Or.inr ⟨by kernel_rfl, rfl⟩) (by assumption) ?_; try go_frame)
        (refine wpAnyH_take (i := 6) (v := undef) (by simp only [List.getElem?_toArray, List.getElem?_cons_succ, List.getElem?_cons_zero]; rfl) (by kernel_rfl) (by kernel_rfl) (by kernel_rfl) (fun _ _ _ h => h) (Or.inr ⟨by kernel_rfl, rfl⟩) (by assumption) ?_; try go_frame)
        (refine wpAnyH_take (i := 7) (v := undef) (by simp only [List.getElem?_toArray, List.getElem?_cons_succ, List.getElem?_cons_zero]; rfl) (by kernel_rfl) (by kernel_rfl) (by kernel_rfl) (fun _ _ _ h => h) (Or.inr ⟨by kernel_rfl, rfl⟩) (by assumption) ?_; try go_frame)
        (refine wpAnyH_take (i := 8) (v := undef) (by simp only [List.getElem?_toArray, List.getElem?_cons_succ, List.getElem?_cons_zero]; rfl) (by kernel_rfl) (by kernel_rfl) (by kernel_rfl) (fun _ _ _ h => h) (Or.inr ⟨by kernel_rfl, rfl⟩) (by assumption) ?_; try go_frame)
        (refine wpAnyH_take (i := 9) (v := undef) (by simp only [List.getElem?_toArray, List.getElem?_cons_succ, List.getElem?_cons_zero]; rfl) (by kernel_rfl) (by kernel_rfl) (by kernel_rfl) (fun _ _ _ h => h) (Or.inr ⟨by kernel_rfl, rfl⟩) (by assumption) ?_; try go_frame)
        (refine wpAnyH_take (i := 10) (v := undef) (by simp only [List.getElem?_toArray, List.getElem?_cons_succ, List.getElem?_cons_zero]; rfl) (by kernel_rfl) (by kernel_rfl) (by kernel_rfl) (fun _ _ _ h => h) (Or.inr ⟨by kernel_rfl, rfl⟩) (by assumption) ?_; try go_frame)
        (refine wpAnyH_take (i := 11) (v := undef) (by simp only [List.getElem?_toArray, List.getElem?_cons_succ, List.getElem?_cons_zero]; rfl) (by kernel_rfl) (by kernel_rfl) (by kernel_rfl) (fun _ _ _ h => h) (Or.inr ⟨by kernel_rfl, rfl⟩) (by assumption) ?_; try go_frame)
        (refine wpAnyH_take (i := 12) (v := undef) (by simp only [List.getElem?_toArray, List.getElem?_cons_succ, List.getElem?_cons_zero]; rfl) (by kernel_rfl) (by kernel_rfl) (by kernel_rfl) (fun _ _ _ h => h) (Or.inr ⟨by kernel_rfl, rfl⟩) (by assumption) ?_; try go_frame)
        (refine wpAnyH_take (i := 13) (v := undef) (by simp only [List.getElem?_toArray, List.getElem?_cons_succ, List.getElem?_cons_zero]; rfl) (by kernel_rfl) (by kernel_rfl) (by kernel_rfl) (fun _ _ _ h => h) (Or.inr ⟨by kernel_rfl, rfl⟩) (by assumption) ?_; try go_frame)
        (refine wpAnyH_take (i := 14) (v := undef) (by simp only [List.getElem?_toArray, List.getElem?_cons_succ, List.getElem?_cons_zero]; rfl) (by kernel_rfl) (by kernel_rfl) (by kernel_rfl) (fun _ _ _ h => h) (Or.inr ⟨by kernel_rfl, rfl⟩) (by assumption) ?_; try go_frame)
        (refine wpAnyH_take (i := 15) (v := ?vaV15) (by simp only [List.getElem?_toArray, List.getElem?_cons_succ, List.getElem?_cons_zero]; rfl) (by kernel_rfl) (by kernel_rfl) (by kernel_rfl) (fun _ _ _ h => h) (Or.inl ⟨by kernel_rfl, ?hyaV15⟩) (by assumption) ?restaV15; (case hyaV15 => ((intro w' hSw); (try dsimp only at hSw); go_simp; (try with_reducible rfl))); try go_frame)
        (refine wpAnyH_take (i := 16) (v := ?vaV16) (by simp only [List.getElem?_toArray, List.getElem?_cons_succ, List.getElem?_cons_zero]; rfl) (by kernel_rfl) (by kernel_rfl) (by kernel_rfl) (fun _ _ _ h => h) (Or.inl ⟨by kernel_rfl, ?hyaV16⟩) (by assumption) ?restaV16; (case hyaV16 => ((intro w' hSw); (try dsimp only at hSw); go_simp; (try with_reducible rfl))); try go_frame)
        (refine wpAnyH_take (i := 17) (v := undef) (by simp only [List.getElem?_toArray, List.getElem?_cons_succ, List.getElem?_cons_zero]; rfl) (by kernel_rfl) (by kernel_rfl) (by kernel_rfl) (fun _ _ _ h => h) (Or.inr ⟨by kernel_rfl, rfl⟩) (by assumption) ?_; try go_frame)
        (refine wpAnyH_take (i := 18) (v := undef) (by simp only [List.getElem?_toArray, List.getElem?_cons_succ, List.getElem?_cons_zero]; rfl) (by kernel_rfl) (by kernel_rfl) (by kernel_rfl) (fun _ _ _ h => h) (Or.inr ⟨by kernel_rfl, rfl⟩) (by assumption) ?_; try go_frame)
        (refine wpAnyH_take (i := 19) (v := undef) (by simp only [List.getElem?_toArray, List.getElem?_cons_succ, List.getElem?_cons_zero]; rfl) (by kernel_rfl) (by kernel_rfl) (by kernel_rfl) (fun _ _ _ h => h) (Or.inr ⟨by kernel_rfl, rfl⟩) (by assumption) ?_; try go_frame)
        (refine wpAnyH_take (i := 20) (v := ?vaV20) (by simp only [List.getElem?_toArray, List.getElem?_cons_succ, List.getElem?_cons_zero]; rfl) (by kernel_rfl) (by kernel_rfl) (by kernel_rfl) (fun _ _ _ h => h) (Or.inl ⟨by kernel_rfl, ?hyaV20⟩) (by assumption) ?restaV20; (case hyaV20 => ((intro w' hSw); (try dsimp only at hSw); go_simp; (try with_reducible rfl))); try go_frame)
        refine wpAnyH_done (by kernel_rfl) ?_ _
        refine NoPanic.normal ?_
        go_wp2
        go_ret
        refine ⟨?_, btF HBV.out (hBelV _ (by assumption))⟩
        have hend : R = false := by
          rw [← HSO.out, HAT.out]
          cases hsk : smOk t with
          | false => rfl
          | true =>
            have h1 := HSI.out hsk
            have h2 : ¬ k = 0 := fun h => by have := HP0.out h; omega
            have h3 : ¬ p < t.id := by omega
            simp [h2, h3]
        rw [hend]
        rfl
      · have hd0 : decide (t.id ≤ p) = false := by rw [decide_eq_false_iff_not]; exact hle
        have hgt : p < t.id := by omega
        cases hsk : smOk t with
        | false =>
          rw [hsk] at hst
          have HSK : Hid _ := hsk
          clear hsk
          cases han : e.ans with
          | true =>
            have HAN : Hid _ := han
            rw [han] at b0
            clear han
            have hkeepV : ∀ w1 w2 : World, Below w1.heap.size w1 w2 → (w1.cell? ⟨P, 0, none⟩ = some (.int .i64 t.id) ∧ w1.cell? ⟨w.heap.size, 0, none⟩ = some (.bool true) ∧ Below V.heap.size V w1) → (w2.cell? ⟨P, 0, none⟩ = some (.int .i64 t.id) ∧ w2.cell? ⟨w.heap.size, 0, none⟩ = some (.bool true) ∧ Below V.heap.size V w2) := by
              rintro w1 w2 hb ⟨h0, h1, hB⟩
              exact ⟨keepc hb h0, keepc hb h1, bt' hB hb⟩
            have hBelV : ∀ w' : World, (w'.cell? ⟨P, 0, none⟩ = some (.int .i64 t.id) ∧ w'.cell? ⟨w.heap.size, 0, none⟩ = some (.bool true) ∧ Below V.heap.size V w') → Below V.heap.size V w' := fun w' h => h.2.2
            have hV0 : V.cell? ⟨P, 0, none⟩ = some (.int .i64 t.id) ∧ V.cell? ⟨w.heap.size, 0, none⟩ = some (.bool true) ∧ Below V.heap.size V V := ⟨p0, b0, Below.refl _ _⟩
            clear p0 b0
            refine wp_region_noPanic ?_
            refine wp_region_held_drew (S := fun w' => w'.cell? ⟨P, 0, none⟩ = some (.int .i64 t.id) ∧ w'.cell? ⟨w.heap.size, 0, none⟩ = some (.bool true) ∧ Below V.heap.size V w') (by kernel_rfl) ?_ (fun hHeld => ?_)
            · exact hkeepV _ _ ((Below.refl _ _).drew) hV0
            (refine wpAnyH_take (i := 0) (v := ?vbfV0) (by simp only [List.getElem?_toArray, List.getElem?_cons_zero]; rfl) (by kernel_rfl) (by kernel_rfl) (by kernel_rfl) (fun _ _ _ h => h) (Or.inl ⟨by kernel_rfl, ?hybfV0⟩) (by assumption) ?restbfV0; (case hybfV0 => ((intro w' hSw); (try dsimp only at hSw); go_simp; (try with_reducible rfl))); try go_frame)
            (refine wpAnyH_take (i := 1) (v := ?vbfV1) (by simp only [List.getElem?_toArray, List.getElem?_cons_succ, List.getElem?_cons_zero]; rfl) (by kernel_rfl) (by kernel_rfl) (by kernel_rfl) (fun _ _ _ h => h) (Or.inl ⟨by kernel_rfl, ?hybfV1⟩) (by assumption) ?restbfV1; (case hybfV1 => ((intro w' hSw); (try dsimp only at hSw); go_simp; (try with_reducible rfl))); try go_frame)
            (refine wpAnyH_take (i := 2) (v := ?vbfV2) (by simp only [List.getElem?_toArray, List.getElem?_cons_succ, List.getElem?_cons_zero]; rfl) (by kernel_rfl) (by kernel_rfl) (by kernel_rfl) (fun _ _ _ h => h) (Or.inl ⟨by kernel_rfl, ?hybfV2⟩) (by assumption) ?restbfV2; (case hybfV2 => ((intro w' hSw); (try dsimp only at hSw); go_simp; (try with_reducible rfl))); try go_frame)
            (refine wpAnyH_take (i := 3) (v := ?vbfV3) (by simp only [List.getElem?_toArray, List.getElem?_cons_succ, List.getElem?_cons_zero]; rfl) (by kernel_rfl) (by kernel_rfl) (by kernel_rfl) (fun _ _ _ h => h) (Or.inl ⟨by kernel_rfl, ?hybfV3⟩) (by assumption) ?restbfV3; (case hybfV3 => ((intro w' hSw); (try dsimp only at hSw); go_simp; (try with_reducible rfl))); try go_frame)
            (refine wpAnyH_take (i := 4) (v := ?vbfV4) (by simp only [List.getElem?_toArray, List.getElem?_cons_succ, List.getElem?_cons_zero]; rfl) (by kernel_rfl) (by kernel_rfl) (by kernel_rfl) (fun _ _ _ h => h) (Or.inl ⟨by kernel_rfl, ?hybfV4⟩) (by assumption) ?restbfV4; (case hybfV4 => ((intro w' hSw); (try dsimp only at hSw); go_simp; (try with_reducible rfl))); try go_frame)
            (refine wpAnyH_take (i := 5) (v := ?vbfV5) (by simp only [List.getElem?_toArray, List.getElem?_cons_succ, List.getElem?_cons_zero]; rfl) (by kernel_rfl) (by kernel_rfl) (by kernel_rfl) (fun _ _ _ h => h) (Or.inl ⟨by kernel_rfl, ?hybfV5⟩) (by assumption) ?restbfV5; (case hybfV5 => ((intro w' hSw); (try dsimp only at hSw); go_simp; (try with_reducible rfl))); try go_frame)
            (refine wpAnyH_take (i := 6) (v := ?vbfV6) (by simp only [List.getElem?_toArray, List.getElem?_cons_succ, List.getElem?_cons_zero]; rfl) (by kernel_rfl) (by kernel_rfl) (by kernel_rfl) (fun _ _ _ h => h) (Or.inl ⟨by kernel_rfl, ?hybfV6⟩) (by assumption) ?restbfV6; (case hybfV6 => ((intro w' hSw); (try dsimp only at hSw); go_simp; (try with_reducible rfl))); try go_frame)
            (refine wpAnyH_take (i := 7) (v := ?vbfV7) (by simp only [List.getElem?_toArray, List.getElem?_cons_succ, List.getElem?_cons_zero]; rfl) (by kernel_rfl) (by kernel_rfl) (by kernel_rfl) (fun _ _ _ h => h) (Or.inl ⟨by kernel_rfl, ?hybfV7⟩) (by assumption) ?restbfV7; (case hybfV7 => ((intro w' hSw); (try dsimp only at hSw); go_simp; (try with_reducible rfl))); try go_frame)
            (refine wpAnyH_take (i := 8) (v := ?vbfV8) (by simp only [List.getElem?_toArray, List.getElem?_cons_succ, List.getElem?_cons_zero]; rfl) (by kernel_rfl) (by kernel_rfl) (by kernel_rfl) (fun _ _ _ h => h) (Or.inl ⟨by kernel_rfl, ?hybfV8⟩) (by assumption) ?restbfV8; (case hybfV8 => ((intro w' hSw); (try dsimp only at hSw); go_simp; (try with_reducible rfl))); try go_frame)
            (refine wpAnyH_take (i := 9) (v := undef) (by simp only [List.getElem?_toArray, List.getElem?_cons_succ, List.getElem?_cons_zero]; rfl) (by kernel_rfl) (by kernel_rfl) (by kernel_rfl) (fun _ _ _ h => h) (Or.inr ⟨by kernel_rfl, rfl⟩) (by assumption) ?_; try go_frame)
            (refine wpAnyH_take (i := 10) (v := undef) (by simp only [List.getElem?_toArray, List.getElem?_cons_succ, List.getElem?_cons_zero]; rfl) (by kernel_rfl) (by kernel_rfl) (by kernel_rfl) (fun _ _ _ h => h) (Or.inr ⟨by kernel_rfl, rfl⟩) (by assumption) ?_; try go_frame)
            (refine wpAnyH_take (i := 11) (v := undef) (by simp only [List.getElem?_toArray, List.getElem?_cons_succ, List.getElem?_cons_zero]; rfl) (by kernel_rfl) (by kernel_rfl) (by kernel_rfl) (fun _ _ _ h => h) (Or.inr ⟨by kernel_rfl, rfl⟩) (by assumption) ?_; try go_frame)
            (refine wpAnyH_take (i := 12) (v := undef) (by simp only [List.getElem?_toArray, List.getElem?_cons_succ, List.getElem?_cons_zero]; rfl) (by kernel_rfl) (by kernel_rfl) (by kernel_rfl) (fun _ _ _ h => h) (Or.inr ⟨by kernel_rfl, rfl⟩) (by assumption) ?_; try go_frame)
            (refine wpAnyH_take (i := 13) (v := undef) (by simp only [List.getElem?_toArray, List.getElem?_cons_succ, List.getElem?_cons_zero]; rfl) (by kernel_rfl) (by kernel_rfl) (by kernel_rfl) (fun _ _ _ h => h) (Or.inr ⟨by kernel_rfl, rfl⟩) (by assumption) ?_; try go_frame)
            (refine wpAnyH_take (i := 14) (v := ?vbfV14) (by simp only [List.getElem?_toArray, List.getElem?_cons_succ, List.getElem?_cons_zero]; rfl) (by kernel_rfl) (by kernel_rfl) (by kernel_rfl) (fun _ _ _ h => h) (Or.inl ⟨by kernel_rfl, ?hybfV14⟩) (by assumption) ?restbfV14; (case hybfV14 => ((intro w' hSw); (try dsimp only at hSw); go_simp; (try with_reducible rfl))); try go_frame)
            (refine wpAnyH_take (i := 15) (v := ?vbfV15) (by simp only [List.getElem?_toArray, List.getElem?_cons_succ, List.getElem?_cons_zero]; rfl) (by kernel_rfl) (by kernel_rfl) (by kernel_rfl) (fun _ _ _ h => h) (Or.inl ⟨by kernel_rfl, ?hybfV15⟩) (by assumption) ?restbfV15; (case hybfV15 => ((intro w' hSw); (try dsimp only at hSw); go_simp; (try with_reducible rfl))); try go_frame)
            (refine wpAnyH_take (i := 16) (v := ?vbfV16) (by simp only [List.getElem?_toArray, List.getElem?_cons_succ, List.getElem?_cons_zero]; rfl) (by kernel_rfl) (by kernel_rfl) (by kernel_rfl) (fun _ _ _ h => h) (Or.inl ⟨by kernel_rfl, ?hybfV16⟩) (by assumption) ?restbfV16; (case hybfV16 => ((intro w' hSw); (try dsimp only at hSw); go_simp; (try with_reducible rfl))); try go_frame)
            (refine wpAnyH_take (i := 17) (v := .agg (smC t (.slice ah nh ch) (.slice ag ng cg)).toArray) (by simp only [List.getElem?_toArray, List.getElem?_cons_succ, List.getElem?_cons_zero]; rfl) (by kernel_rfl) (by kernel_rfl) (by kernel_rfl) (fun _ _ _ h => h) (yieldsIf_load_mid (by kernel_rfl) 70 _ (by rfl) P 0 (by rfl) (smC t (.slice ah nh ch) (.slice ag ng cg)) _ (fun w2 h => range_below HRP.out (hBelV w2 h)) Try.underlying70 (by rfl) infoSm) (by assumption) ?restbfV17; try go_frame)
            refine wpAnyH_ready (rs := [18]) (by kernel_rfl) (by simp) ?_
            refine AllReadyH.cons (by simp only [List.getElem?_toArray, List.getElem?_cons_succ, List.getElem?_cons_zero]; rfl) (fun K hK => ?_) AllReadyH.nil
            first | (go_at_call 68; refine (hst _ (HFH.out.below (hBelV _ (by assumption))) (HFG.out.below (hBelV _ (by assumption)))).mono ?_; rintro r wN ⟨rfl, hbN⟩) | (go_simp; (go_at_call 68; refine (hst _ (HFH.out.below (hBelV _ (by assumption))) (HFG.out.below (hBelV _ (by assumption)))).mono ?_; rintro r wN ⟨rfl, hbN⟩))
            try (go_wp2_with fail)
            refine hK.out _ _ ?_ (fun hHeld => ?_)
            · (try dsimp only); exact hkeepV _ _ hbN (by assumption)
            clear hK K
            try go_frame
            (refine wpAnyH_take (i := 19) (v := ?vbfV19) (by simp only [List.getElem?_toArray, List.getElem?_cons_succ, List.getElem?_cons_zero]; rfl) (by kernel_rfl) (by kernel_rfl) (by kernel_rfl) (fun _ _ _ h => h) (Or.inl ⟨by kernel_rfl, ?hybfV19⟩) (by assumption) ?restbfV19; (case hybfV19 => ((intro w' hSw); (try dsimp only at hSw); go_simp; (try with_reducible rfl))); try go_frame)
            (refine wpAnyH_take (i := 20) (v := ?vbfV20) (by simp only [List.getElem?_toArray, List.getElem?_cons_succ, List.getElem?_cons_zero]; rfl) (by kernel_rfl) (by kernel_rfl) (by kernel_rfl) (fun _ _ _ h => h) (Or.inl ⟨by kernel_rfl, ?hybfV20⟩) (by assumption) ?restbfV20; (case hybfV20 => ((intro w' hSw); (try dsimp only at hSw); go_simp; (try with_reducible rfl))); try go_frame)
            refine wpAnyH_done (by kernel_rfl) ?_ _
            refine NoPanic.normal ?_
            go_wp2
            go_ret
            refine ⟨?_, btF HBV.out (hBelV _ (by assumption))⟩
            have hend : R = false := by
              rw [← HSO.out, HAT.out]
              simp [HSK.out, HAN.out, hgt]
            rw [hend]
            rfl
          | false =>
            have HAN : Hid _ := han
            rw [han] at b0
            clear han
            by_cases hq : t.id = 2 * (k : Int) + 1
            · have hd1 : (t.id != 2 * (k : Int) + 1) = false := by simpa using hq
              have HQ : Hid _ := hq
              clear hq
              have hkeepV : ∀ w1 w2 : World, Below w1.heap.size w1 w2 → (w1.cell? ⟨P, 0, none⟩ = some (.int .i64 t.id) ∧ w1.cell? ⟨w.heap.size, 0, none⟩ = some (.bool false) ∧ Below V.heap.size V w1) → (w2.cell? ⟨P, 0, none⟩ = some (.int .i64 t.id) ∧ w2.cell? ⟨w.heap.size, 0, none⟩ = some (.bool false) ∧ Below V.heap.size V w2) := by
                rintro w1 w2 hb ⟨h0, h1, hB⟩
                exact ⟨keepc hb h0, keepc hb h1, bt' hB hb⟩
              have hBelV : ∀ w' : World, (w'.cell? ⟨P, 0, none⟩ = some (.int .i64 t.id) ∧ w'.cell? ⟨w.heap.size, 0, none⟩ = some (.bool false) ∧ Below V.heap.size V w') → Below V.heap.size V w' := fun w' h => h.2.2
              have hV0 : V.cell? ⟨P, 0, none⟩ = some (.int .i64 t.id) ∧ V.cell? ⟨w.heap.size, 0, none⟩ = some (.bool false) ∧ Below V.heap.size V V := ⟨p0, b0, Below.refl _ _⟩
              clear p0 b0
              refine wp_region_noPanic ?_
              refine wp_region_held_drew (S := fun w' => w'.cell? ⟨P, 0, none⟩ = some (.int .i64 t.id) ∧ w'.cell? ⟨w.heap.size, 0, none⟩ = some (.bool false) ∧ Below V.heap.size V w') (by kernel_rfl) ?_ (fun hHeld => ?_)
              · exact hkeepV _ _ ((Below.refl _ _).drew) hV0
              (refine wpAnyH_take (i := 0) (v := ?vcfV0) (by simp only [List.getElem?_toArray, List.getElem?_cons_zero]; rfl) (by kernel_rfl) (by kernel_rfl) (by kernel_rfl) (fun _ _ _ h => h) (Or.inl ⟨by kernel_rfl, ?hycfV0⟩) (by assumption) ?restcfV0; (case hycfV0 => ((intro w' hSw); (try dsimp only at hSw); go_simp; (try with_reducible rfl))); try go_frame)
              (refine wpAnyH_take (i := 1) (v := ?vcfV1) (by simp only [List.getElem?_toArray, List.getElem?_cons_succ, List.getElem?_cons_zero]; rfl) (by kernel_rfl) (by kernel_rfl) (by kernel_rfl) (fun _ _ _ h => h) (Or.inl ⟨by kernel_rfl, ?hycfV1⟩) (by assumption) ?restcfV1; (case hycfV1 => ((intro w' hSw); (try dsimp only at hSw); go_simp; (try with_reducible rfl))); try go_frame)
              (refine wpAnyH_take (i := 2) (v := ?vcfV2) (by simp only [List.getElem?_toArray, List.getElem?_cons_succ, List.getElem?_cons_zero]; rfl) (by kernel_rfl) (by kernel_rfl) (by kernel_rfl) (fun _ _ _ h => h) (Or.inl ⟨by kernel_rfl, ?hycfV2⟩) (by assumption) ?restcfV2; (case hycfV2 => ((intro w' hSw); (try dsimp only at hSw); go_simp; (try with_reducible rfl))); try go_frame)
              (refine wpAnyH_take (i := 3) (v := ?vcfV3) (by simp only [List.getElem?_toArray, List.getElem?_cons_succ, List.getElem?_cons_zero]; rfl) (by kernel_rfl) (by kernel_rfl) (by kernel_rfl) (fun _ _ _ h => h) (Or.inl ⟨by kernel_rfl, ?hycfV3⟩) (by assumption) ?restcfV3; (case hycfV3 => ((intro w' hSw); (try dsimp only at hSw); go_simp; (try with_reducible rfl))); try go_frame)
              (refine wpAnyH_take (i := 4) (v := ?vcfV4) (by simp only [List.getElem?_toArray, List.getElem?_cons_succ, List.getElem?_cons_zero]; rfl) (by kernel_rfl) (by kernel_rfl) (by kernel_rfl) (fun _ _ _ h => h) (Or.inl ⟨by kernel_rfl, ?hycfV4⟩) (by assumption) ?restcfV4; (case hycfV4 => ((intro w' hSw); (try dsimp only at hSw); go_simp; (try with_reducible rfl))); try go_frame)
              (refine wpAnyH_take (i := 5) (v := ?vcfV5) (by simp only [List.getElem?_toArray, List.getElem?_cons_succ, List.getElem?_cons_zero]; rfl) (by kernel_rfl) (by kernel_rfl) (by kernel_rfl) (fun _ _ _ h => h) (Or.inl ⟨by kernel_rfl, ?hycfV5⟩) (by assumption) ?restcfV5; (case hycfV5 => ((intro w' hSw); (try dsimp only at hSw); go_simp; (try with_reducible rfl))); try go_frame)
              (refine wpAnyH_take (i := 6) (v := ?vcfV6) (by simp only [List.getElem?_toArray, List.getElem?_cons_succ, List.getElem?_cons_zero]; rfl) (by kernel_rfl) (by kernel_rfl) (by kernel_rfl) (fun _ _ _ h => h) (Or.inl ⟨by kernel_rfl, ?hycfV6⟩) (by assumption) ?restcfV6; (case hycfV6 => ((intro w' hSw); (try dsimp only at hSw); go_simp; (try with_reducible rfl))); try go_frame)
              (refine wpAnyH_take (i := 7) (v := ?vcfV7) (by simp only [List.getElem?_toArray, List.getElem?_cons_succ, List.getElem?_cons_zero]; rfl) (by kernel_rfl) (by kernel_rfl) (by kernel_rfl) (fun _ _ _ h => h) (Or.inl ⟨by kernel_rfl, ?hycfV7⟩) (by assumption) ?restcfV7; (case hycfV7 => ((intro w' hSw); (try dsimp only at hSw); go_simp; (try with_reducible rfl))); try go_frame)
              (refine wpAnyH_take (i := 8) (v := ?vcfV8) (by simp only [List.getElem?_toArray, List.getElem?_cons_succ, List.getElem?_cons_zero]; rfl) (by kernel_rfl) (by kernel_rfl) (by kernel_rfl) (fun _ _ _ h => h) (Or.inl ⟨by kernel_rfl, ?hycfV8⟩) (by assumption) ?restcfV8; (case hycfV8 => ((intro w' hSw); (try dsimp only at hSw); go_simp; (try with_reducible rfl))); try go_frame)
              (refine wpAnyH_take (i := 9) (v := ?vcfV9) (by simp only [List.getElem?_toArray, List.getElem?_cons_succ, List.getElem?_cons_zero]; rfl) (by kernel_rfl) (by kernel_rfl) (by kernel_rfl) (fun _ _ _ h => h) (Or.inl ⟨by kernel_rfl, ?hycfV9⟩) (by assumption) ?restcfV9; (case hycfV9 => ((intro w' hSw); (try dsimp only at hSw); go_simp; (try with_reducible rfl))); try go_frame)
              (refine wpAnyH_take (i := 10) (v := ?vcfV10) (by simp only [List.getElem?_toArray, List.getElem?_cons_succ, List.getElem?_cons_zero]; rfl) (by kernel_rfl) (by kernel_rfl) (by kernel_rfl) (fun _ _ _ h => h) (Or.inl ⟨by kernel_rfl, ?hycfV10⟩) (by assumption) ?restcfV10; (case hycfV10 => ((intro w' hSw); (try dsimp only at hSw); go_simp; (try with_reducible rfl))); try go_frame)
              (refine wpAnyH_take (i := 11) (v := ?vcfV11) (by simp only [List.getElem?_toArray, List.getElem?_cons_succ, List.getElem?_cons_zero]; rfl) (by kernel_rfl) (by kernel_rfl) (by kernel_rfl) (fun _ _ _ h => h) (Or.inl ⟨by kernel_rfl, ?hycfV11⟩) (by assumption) ?restcfV11; (case hycfV11 => ((intro w' hSw); (try dsimp only at hSw); go_simp; (try with_reducible rfl))); try go_frame)
              refine wpAnyH_ready (rs := [12]) (by kernel_rfl) (by simp) ?_
              refine AllReadyH.cons (by simp only [List.getElem?_toArray, List.getElem?_cons_succ, List.getElem?_cons_zero]; rfl) (fun K hK => ?_) AllReadyH.nil
              first | (go_at_call 67; refine (hid _).mono ?_; rintro r wN ⟨rfl, hbN⟩) | (go_simp; (go_at_call 67; refine (hid _).mono ?_; rintro r wN ⟨rfl, hbN⟩))
              try (go_wp2_with fail)
              refine hK.out _ _ ?_ (fun hHeld => ?_)
              · (try dsimp only); exact hkeepV _ _ hbN (by assumption)
              clear hK K
              try go_frame
              (refine wpAnyH_take (i := 13) (v := ?vcfV13) (by simp only [List.getElem?_toArray, List.getElem?_cons_succ, List.getElem?_cons_zero]; rfl) (by kernel_rfl) (by kernel_rfl) (by kernel_rfl) (fun _ _ _ h => h) (Or.inl ⟨by kernel_rfl, ?hycfV13⟩) (by assumption) ?restcfV13; (case hycfV13 => ((intro w' hSw); (try dsimp only at hSw); go_simp; (try with_reducible rfl))); try go_frame)
              (refine wpAnyH_take (i := 14) (v := ?vcfV14) (by simp only [List.getElem?_toArray, List.getElem?_cons_succ, List.getElem?_cons_zero]; rfl) (by kernel_rfl) (by kernel_rfl) (by kernel_rfl) (fun _ _ _ h => h) (Or.inl ⟨by kernel_rfl, ?hycfV14⟩) (by assumption) ?restcfV14; (case hycfV14 => ((intro w' hSw); (try dsimp only at hSw); go_simp; (try with_reducible rfl))); try go_frame)
              (refine wpAnyH_take (i := 15) (v := ?vcfV15) (by simp only [List.getElem?_toArray, List.getElem?_cons_succ, List.getElem?_cons_zero]; rfl) (by kernel_rfl) (by kernel_rfl) (by kernel_rfl) (fun _ _ _ h => h) (Or.inl ⟨by kernel_rfl, ?hycfV15⟩) (by assumption) ?restcfV15; (case hycfV15 => ((intro w' hSw); (try dsimp only at hSw); go_simp; (try with_reducible rfl))); try go_frame)
              (refine wpAnyH_take (i := 16) (v := ?vcfV16) (by simp only [List.getElem?_toArray, List.getElem?_cons_succ, List.getElem?_cons_zero]; rfl) (by kernel_rfl) (by kernel_rfl) (by kernel_rfl) (fun _ _ _ h => h) (Or.inl ⟨by kernel_rfl, ?hycfV16⟩) (by assumption) ?restcfV16; (case hycfV16 => ((intro w' hSw); (try dsimp only at hSw); go_simp; (try with_reducible rfl))); try go_frame)
              (refine wpAnyH_take (i := 17) (v := .agg (smC t (.slice ah nh ch) (.slice ag ng cg)).toArray) (by simp only [List.getElem?_toArray, List.getElem?_cons_succ, List.getElem?_cons_zero]; rfl) (by kernel_rfl) (by kernel_rfl) (by kernel_rfl) (fun _ _ _ h => h) (yieldsIf_load_mid (by kernel_rfl) 70 _ (by rfl) P 0 (by rfl) (smC t (.slice ah nh ch) (.slice ag ng cg)) _ (fun w2 h => range_below HRP.out (hBelV w2 h)) Try.underlying70 (by rfl) infoSm) (by assumption) ?restcfV17; try go_frame)
              refine wpAnyH_ready (rs := [18]) (by kernel_rfl) (by simp) ?_
              refine AllReadyH.cons (by simp only [List.getElem?_toArray, List.getElem?_cons_succ, List.getElem?_cons_zero]; rfl) (fun K hK => ?_) AllReadyH.nil
              first | (go_at_call 68; refine (hst _ (HFH.out.below (hBelV _ (by assumption))) (HFG.out.below (hBelV _ (by assumption)))).mono ?_; rintro r wN ⟨rfl, hbN⟩) | (go_simp; (go_at_call 68; refine (hst _ (HFH.out.below (hBelV _ (by assumption))) (HFG.out.below (hBelV _ (by assumption)))).mono ?_; rintro r wN ⟨rfl, hbN⟩))
              try (go_wp2_with fail)
              refine hK.out _ _ ?_ (fun hHeld => ?_)
              · (try dsimp only); exact hkeepV _ _ hbN (by assumption)
              clear hK K
              try go_frame
              (refine wpAnyH_take (i := 19) (v := ?vcfV19) (by simp only [List.getElem?_toArray, List.getElem?_cons_succ, List.getElem?_cons_zero]; rfl) (by kernel_rfl) (by kernel_rfl) (by kernel_rfl) (fun _ _ _ h => h) (Or.inl ⟨by kernel_rfl, ?hycfV19⟩) (by assumption) ?restcfV19; (case hycfV19 => ((intro w' hSw); (try dsimp only at hSw); go_simp; (try with_reducible rfl))); try go_frame)
              (refine wpAnyH_take (i := 20) (v := ?vcfV20) (by simp only [List.getElem?_toArray, List.getElem?_cons_succ, List.getElem?_cons_zero]; rfl) (by kernel_rfl) (by kernel_rfl) (by kernel_rfl) (fun _ _ _ h => h) (Or.inl ⟨by kernel_rfl, ?hycfV20⟩) (by assumption) ?restcfV20; (case hycfV20 => ((intro w' hSw); (try dsimp only at hSw); go_simp; (try with_reducible rfl))); try go_frame)
              refine wpAnyH_done (by kernel_rfl) ?_ _
              refine NoPanic.normal ?_
              go_wp2
              go_ret
              refine ⟨?_, btF HBV.out (hBelV _ (by assumption))⟩
              have hend : R = false := by
                rw [← HSO.out, HAT.out]
                simp [HSK.out, HAN.out, hgt]
              rw [hend]
              rfl
            · have hd1 : (t.id != 2 * (k : Int) + 1) = true := by simpa using hq
              have HQ : Hid _ := hq
              clear hq
              have hkeepV : ∀ w1 w2 : World, Below w1.heap.size w1 w2 → (w1.cell? ⟨P, 0, none⟩ = some (.int .i64 t.id) ∧ w1.cell? ⟨w.heap.size, 0, none⟩ = some (.bool false) ∧ Below V.heap.size V w1) → (w2.cell? ⟨P, 0, none⟩ = some (.int .i64 t.id) ∧ w2.cell? ⟨w.heap.size, 0, none⟩ = some (.bool false) ∧ Below V.heap.size V w2) := by
                rintro w1 w2 hb ⟨h0, h1, hB⟩
                exact ⟨keepc hb h0, keepc hb h1, bt' hB hb⟩
              have hBelV : ∀ w' : World, (w'.cell? ⟨P, 0, none⟩ = some (.int .i64 t.id) ∧ w'.cell? ⟨w.heap.size, 0, none⟩ = some (.bool false) ∧ Below V.heap.size V w') → Below V.heap.size V w' := fun w' h => h.2.2
              have hV0 : V.cell? ⟨P, 0, none⟩ = some (.int .i64 t.id) ∧ V.cell? ⟨w.heap.size, 0, none⟩ = some (.bool false) ∧ Below V.heap.size V V := ⟨p0, b0, Below.refl _ _⟩
              clear p0 b0
              refine wp_region_noPanic ?_
              refine wp_region_held_drew (S := fun w' => w'.cell? ⟨P, 0, none⟩ = some (.int .i64 t.id) ∧ w'.cell? ⟨w.heap.size, 0, none⟩ = some (.bool false) ∧ Below V.heap.size V w') (by kernel_rfl) ?_ (fun hHeld => ?_)
              · exact hkeepV _ _ ((Below.refl _ _).drew) hV0
              (refine wpAnyH_take (i := 0) (v := ?vdfV0) (by simp only [List.getElem?_toArray, List.getElem?_cons_zero]; rfl) (by kernel_rfl) (by kernel_rfl) (by kernel_rfl) (fun _ _ _ h => h) (Or.inl ⟨by kernel_rfl, ?hydfV0⟩) (by assumption) ?restdfV0; (case hydfV0 => ((intro w' hSw); (try dsimp only at hSw); go_simp; (try with_reducible rfl))); try go_frame)
              (refine wpAnyH_take (i := 1) (v := ?vdfV1) (by simp only [List.getElem?_toArray, List.getElem?_cons_succ, List.getElem?_cons_zero]; rfl) (by kernel_rfl) (by kernel_rfl) (by kernel_rfl) (fun _ _ _ h => h) (Or.inl ⟨by kernel_rfl, ?hydfV1⟩) (by assumption) ?restdfV1; (case hydfV1 => ((intro w' hSw); (try dsimp only at hSw); go_simp; (try with_reducible rfl))); try go_frame)
              (refine wpAnyH_take (i := 2) (v := ?vdfV2) (by simp only [List.getElem?_toArray, List.getElem?_cons_succ, List.getElem?_cons_zero]; rfl) (by kernel_rfl) (by kernel_rfl) (by kernel_rfl) (fun _ _ _ h => h) (Or.inl ⟨by kernel_rfl, ?hydfV2⟩) (by assumption) ?restdfV2; (case hydfV2 => ((intro w' hSw); (try dsimp only at hSw); go_simp; (try with_reducible rfl))); try go_frame)
              (refine wpAnyH_take (i := 3) (v := ?vdfV3) (by simp only [List.getElem?_toArray, List.getElem?_cons_succ, List.getElem?_cons_zero]; rfl) (by kernel_rfl) (by kernel_rfl) (by kernel_rfl) (fun _ _ _ h => h) (Or.inl ⟨by kernel_rfl, ?hydfV3⟩) (by assumption) ?restdfV3; (case hydfV3 => ((intro w' hSw); (try dsimp only at hSw); go_simp; (try with_reducible rfl))); try go_frame)
              (refine wpAnyH_take (i := 4) (v := ?vdfV4) (by simp only [List.getElem?_toArray, List.getElem?_cons_succ, List.getElem?_cons_zero]; rfl) (by kernel_rfl) (by kernel_rfl) (by kernel_rfl) (fun _ _ _ h => h) (Or.inl ⟨by kernel_rfl, ?hydfV4⟩) (by assumption) ?restdfV4; (case hydfV4 => ((intro w' hSw); (try dsimp only at hSw); go_simp; (try with_reducible rfl))); try go_frame)
              (refine wpAnyH_take (i := 5) (v := ?vdfV5) (by simp only [List.getElem?_toArray, List.getElem?_cons_succ, List.getElem?_cons_zero]; rfl) (by kernel_rfl) (by kernel_rfl) (by kernel_rfl) (fun _ _ _ h => h) (Or.inl ⟨by kernel_rfl, ?hydfV5⟩) (by assumption) ?restdfV5; (case hydfV5 => ((intro w' hSw); (try dsimp only at hSw); go_simp; (try with_reducible rfl))); try go_frame)
              (refine wpAnyH_take (i := 6) (v := ?vdfV6) (by simp only [List.getElem?_toArray, List.getElem?_cons_succ, List.getElem?_cons_zero]; rfl) (by kernel_rfl) (by kernel_rfl) (by kernel_rfl) (fun _ _ _ h => h) (Or.inl ⟨by kernel_rfl, ?hydfV6⟩) (by assumption) ?restdfV6; (case hydfV6 => ((intro w' hSw); (try dsimp only at hSw); go_simp; (try with_reducible rfl))); try go_frame)
              (refine wpAnyH_take (i := 7) (v := ?vdfV7) (by simp only [List.getElem?_toArray, List.getElem?_cons_succ, List.getElem?_cons_zero]; rfl) (by kernel_rfl) (by kernel_rfl) (by kernel_rfl) (fun _ _ _ h => h) (Or.inl ⟨by kernel_rfl, ?hydfV7⟩) (by assumption) ?restdfV7; (case hydfV7 => ((intro w' hSw); (try dsimp only at hSw); go_simp; (try with_reducible rfl))); try go_frame)
              (refine wpAnyH_take (i := 8) (v := ?vdfV8) (by simp only [List.getElem?_toArray, List.getElem?_cons_succ, List.getElem?_cons_zero]; rfl) (by kernel_rfl) (by kernel_rfl) (by kernel_rfl) (fun _ _ _ h => h) (Or.inl ⟨by kernel_rfl, ?hydfV8⟩) (by assumption) ?restdfV8; (case hydfV8 => ((intro w' hSw); (try dsimp only at hSw); go_simp; (try with_reducible rfl))); try go_frame)
              (refine wpAnyH_take (i := 9) (v := ?vdfV9) (by simp only [List.getElem?_toArray, List.getElem?_cons_succ, List.getElem?_cons_zero]; rfl) (by kernel_rfl) (by kernel_rfl) (by kernel_rfl) (fun _ _ _ h => h) (Or.inl ⟨by kernel_rfl, ?hydfV9⟩) (by assumption) ?restdfV9; (case hydfV9 => ((intro w' hSw); (try dsimp only at hSw); go_simp; (try with_reducible rfl))); try go_frame)
              (refine wpAnyH_take (i := 10) (v := ?vdfV10) (by simp only [List.getElem?_toArray, List.getElem?_cons_succ, List.getElem?_cons_zero]; rfl) (by kernel_rfl) (by kernel_rfl) (by kernel_rfl) (fun _ _ _ h => h) (Or.inl ⟨by kernel_rfl, ?hydfV10⟩) (by assumption) ?restdfV10; (case hydfV10 => ((intro w' hSw); (try dsimp only at hSw); go_simp; (try with_reducible rfl))); try go_frame)
              (refine wpAnyH_take (i := 11) (v := ?vdfV11) (by simp only [List.getElem?_toArray, List.getElem?_cons_succ, List.getElem?_cons_zero]; rfl) (by kernel_rfl) (by kernel_rfl) (by kernel_rfl) (fun _ _ _ h => h) (Or.inl ⟨by kernel_rfl, ?hydfV11⟩) (by assumption) ?restdfV11; (case hydfV11 => ((intro w' hSw); (try dsimp only at hSw); go_simp; (try with_reducible rfl))); try go_frame)
              refine wpAnyH_ready (rs := [12]) (by kernel_rfl) (by simp) ?_
              refine AllReadyH.cons (by simp only [List.getElem?_toArray, List.getElem?_cons_succ, List.getElem?_cons_zero]; rfl) (fun K hK => ?_) AllReadyH.nil
              first | (go_at_call 67; refine (hid _).mono ?_; rintro r wN ⟨rfl, hbN⟩) | (go_simp; (go_at_call 67; refine (hid _).mono ?_; rintro r wN ⟨rfl, hbN⟩))
              try (go_wp2_with fail)
              refine hK.out _ _ ?_ (fun hHeld => ?_)
              · (try dsimp only); exact hkeepV _ _ hbN (by assumption)
              clear hK K
              try go_frame
              (refine wpAnyH_take (i := 13) (v := ?vdfV13) (by simp only [List.getElem?_toArray, List.getElem?_cons_succ, List.getElem?_cons_zero]; rfl) (by kernel_rfl) (by kernel_rfl) (by kernel_rfl) (fun _ _ _ h => h) (Or.inl ⟨by kernel_rfl, ?hydfV13⟩) (by assumption) ?restdfV13; (case hydfV13 => ((intro w' hSw); (try dsimp only at hSw); go_simp; (try with_reducible rfl))); try go_frame)
              (refine wpAnyH_take (i := 14) (v := ?vdfV14) (by simp only [List.getElem?_toArray, List.getElem?_cons_succ, List.getElem?_cons_zero]; rfl) (by kernel_rfl) (by kernel_rfl) (by kernel_rfl) (fun _ _ _ h => h) (Or.inl ⟨by kernel_rfl, ?hydfV14⟩) (by assumption) ?restdfV14; (case hydfV14 => ((intro w' hSw); (try dsimp only at hSw); go_simp; (try with_reducible rfl))); try go_frame)
              (refine wpAnyH_take (i := 15) (v := ?vdfV15) (by simp only [List.getElem?_toArray, List.getElem?_cons_succ, List.getElem?_cons_zero]; rfl) (by kernel_rfl) (by kernel_rfl) (by kernel_rfl) (fun _ _ _ h => h) (Or.inl ⟨by kernel_rfl, ?hydfV15⟩) (by assumption) ?restdfV15; (case hydfV15 => ((intro w' hSw); (try dsimp only at hSw); go_simp; (try with_reducible rfl))); try go_frame)
              (refine wpAnyH_take (i := 16) (v := ?vdfV16) (by simp only [List.getElem?_toArray, List.getElem?_cons_succ, List.getElem?_cons_zero]; rfl) (by kernel_rfl) (by kernel_rfl) (by kernel_rfl) (fun _ _ _ h => h) (Or.inl ⟨by kernel_rfl, ?hydfV16⟩) (by assumption) ?restdfV16; (case hydfV16 => ((intro w' hSw); (try dsimp only at hSw); go_simp; (try with_reducible rfl))); try go_frame)
              (refine wpAnyH_take (i := 17) (v := undef) (by simp only [List.getElem?_toArray, List.getElem?_cons_succ, List.getElem?_cons_zero]; rfl) (by kernel_rfl) (by kernel_rfl) (by kernel_rfl) (fun _ _ _ h => h) (Or.inr ⟨by kernel_rfl, rfl⟩) (by assumption) ?_; try go_frame)
              (refine wpAnyH_take (i := 18) (v := undef) (by simp only [List.getElem?_toArray, List.getElem?_cons_succ, List.getElem?_cons_zero]; rfl) (by kernel_rfl) (by kernel_rfl) (by kernel_rfl) (fun _ _ _ h => h) (Or.inr ⟨by kernel_rfl, rfl⟩) (by assumption) ?_; try go_frame)
              (refine wpAnyH_take (i := 19) (v := undef) (by simp only [List.getElem?_toArray, List.getElem?_cons_succ, List.getElem?_cons_zero]; rfl) (by kernel_rfl) (by kernel_rfl) (by kernel_rfl) (fun _ _ _ h => h) (Or.inr ⟨by kernel_rfl, rfl⟩) (by assumption) ?_; try go_frame)
              (refine wpAnyH_take (i := 20) (v := ?vdfV20) (by simp only [List.getElem?_toArray, List.getElem?_cons_succ, List.getElem?_cons_zero]; rfl) (by kernel_rfl) (by kernel_rfl) (by kernel_rfl) (fun _ _ _ h => h) (Or.inl ⟨by kernel_rfl, ?hydfV20⟩) (by assumption) ?restdfV20; (case hydfV20 => ((intro w' hSw); (try dsimp only at hSw); go_simp; (try with_reducible rfl))); try go_frame)
              refine wpAnyH_done (by kernel_rfl) ?_ _
              refine NoPanic.normal ?_
              go_wp2
              go_ret
              refine ⟨?_, btF HBV.out (hBelV _ (by assumption))⟩
              have hend : R = false := by
                rw [← HSO.out, HAT.out]
                have hx : decide (t.id = 2 * (k : Int) + 1) = false := by rw [decide_eq_false_iff_not]; exact HQ.out
                rw [hx, HAN.out]
                simp
              rw [hend]
              rfl
        | true =>
          rw [hsk] at hst
          have HSK : Hid _ := hsk
          clear hsk
          cases han : e.ans with
          | true =>
            have HAN : Hid _ := han
            rw [han] at b0
            clear han
            have hkeepV : ∀ w1 w2 : World, Below w1.heap.size w1 w2 → (w1.cell? ⟨P, 0, none⟩ = some (.int .i64 t.id) ∧ w1.cell? ⟨w.heap.size, 0, none⟩ = some (.bool true) ∧ Below V.heap.size V w1) → (w2.cell? ⟨P, 0, none⟩ = some (.int .i64 t.id) ∧ w2.cell? ⟨w.heap.size, 0, none⟩ = some (.bool true) ∧ Below V.heap.size V w2) := by
              rintro w1 w2 hb ⟨h0, h1, hB⟩
              exact ⟨keepc hb h0, keepc hb h1, bt' hB hb⟩
            have hBelV : ∀ w' : World, (w'.cell? ⟨P, 0, none⟩ = some (.int .i64 t.id) ∧ w'.cell? ⟨w.heap.size, 0, none⟩ = some (.bool true) ∧ Below V.heap.size V w') → Below V.heap.size V w' := fun w' h => h.2.2
            have hV0 : V.cell? ⟨P, 0, none⟩ = some (.int .i64 t.id) ∧ V.cell? ⟨w.heap.size, 0, none⟩ = some (.bool true) ∧ Below V.heap.size V V := ⟨p0, b0, Below.refl _ _⟩
            clear p0 b0
            refine wp_region_noPanic ?_
            refine wp_region_held_drew (S := fun w' => w'.cell? ⟨P, 0, none⟩ = some (.int .i64 t.id) ∧ w'.cell? ⟨w.heap.size, 0, none⟩ = some (.bool true) ∧ Below V.heap.size V w') (by kernel_rfl) ?_ (fun hHeld => ?_)
            · exact hkeepV _ _ ((Below.refl _ _).drew) hV0
            (refine wpAnyH_take (i := 0) (v := ?vbtV0) (by simp only [List.getElem?_toArray, List.getElem?_cons_zero]; rfl) (by kernel_rfl) (by kernel_rfl) (by kernel_rfl) (fun _ _ _ h => h) (Or.inl ⟨by kernel_rfl, ?hybtV0⟩) (by assumption) ?restbtV0; (case hybtV0 => ((intro w' hSw); (try dsimp only at hSw); go_simp; (try with_reducible rfl))); try go_frame)
            (refine wpAnyH_take (i := 1) (v := ?vbtV1) (by simp only [List.getElem?_toArray, List.getElem?_cons_succ, List.getElem?_cons_zero]; rfl) (by kernel_rfl) (by kernel_rfl) (by kernel_rfl) (fun _ _ _ h => h) (Or.inl ⟨by kernel_rfl, ?hybtV1⟩) (by assumption) ?restbtV1; (case hybtV1 => ((intro w' hSw); (try dsimp only at hSw); go_simp; (try with_reducible rfl))); try go_frame)
            (refine wpAnyH_take (i := 2) (v := ?vbtV2) (by simp only [List.getElem?_toArray, List.getElem?_cons_succ, List.getElem?_cons_zero]; rfl) (by kernel_rfl) (by kernel_rfl) (by kernel_rfl) (fun _ _ _ h => h) (Or.inl ⟨by kernel_rfl, ?hybtV2⟩) (by assumption) ?restbtV2; (case hybtV2 => ((intro w' hSw); (try dsimp only at hSw); go_simp; (try with_reducible rfl))); try go_frame)
            (refine wpAnyH_take (i := 3) (v := ?vbtV3) (by simp only [List.getElem?_toArray, List.getElem?_cons_succ, List.getElem?_cons_zero]; rfl) (by kernel_rfl) (by kernel_rfl) (by kernel_rfl) (fun _ _ _ h => h) (Or.inl ⟨by kernel_rfl, ?hybtV3⟩) (by assumption) ?restbtV3; (case hybtV3 => ((intro w' hSw); (try dsimp only at hSw); go_simp; (try with_reducible rfl))); try go_frame)
            (refine wpAnyH_take (i := 4) (v := ?vbtV4) (by simp only [List.getElem?_toArray, List.getElem?_cons_succ, List.getElem?_cons_zero]; rfl) (by kernel_rfl) (by kernel_rfl) (by kernel_rfl) (fun _ _ _ h => h) (Or.inl ⟨by kernel_rfl, ?hybtV4⟩) (by assumption) ?restbtV4; (case hybtV4 => ((intro w' hSw); (try dsimp only at hSw); go_simp; (try with_reducible rfl))); try go_frame)
            (refine wpAnyH_take (i := 5) (v := ?vbtV5) (by simp only [List.getElem?_toArray, List.getElem?_cons_succ, List.getElem?_cons_zero]; rfl) (by kernel_rfl) (by kernel_rfl) (by kernel_rfl) (fun _ _ _ h => h) (Or.inl ⟨by kernel_rfl, ?hybtV5⟩) (by assumption) ?restbtV5; (case hybtV5 => ((intro w' hSw); (try dsimp only at hSw); go_simp; (try with_reducible rfl))); try go_frame)
            (refine wpAnyH_take (i := 6) (v := ?vbtV6) (by simp only [List.getElem?_toArray, List.getElem?_cons_succ, List.getElem?_cons_zero]; rfl) (by kernel_rfl) (by kernel_rfl) (by kernel_rfl) (fun _ _ _ h => h) (Or.inl ⟨by kernel_rfl, ?hybtV6⟩) (by assumption) ?restbtV6; (case hybtV6 => ((intro w' hSw); (try dsimp only at hSw); go_simp; (try with_reducible rfl))); try go_frame)
            (refine wpAnyH_take (i := 7) (v := ?vbtV7) (by simp only [List.getElem?_toArray, List.getElem?_cons_succ, List.getElem?_cons_zero]; rfl) (by kernel_rfl) (by kernel_rfl) (by kernel_rfl) (fun _ _ _ h => h) (Or.inl ⟨by kernel_rfl, ?hybtV7⟩) (by assumption) ?restbtV7; (case hybtV7 => ((intro w' hSw); (try dsimp only at hSw); go_simp; (try with_reducible rfl))); try go_frame)
            (refine wpAnyH_take (i := 8) (v := ?vbtV8) (by simp only [List.getElem?_toArray, List.getElem?_cons_succ, List.getElem?_cons_zero]; rfl) (by kernel_rfl) (by kernel_rfl) (by kernel_rfl) (fun _ _ _ h => h) (Or.inl ⟨by kernel_rfl, ?hybtV8⟩) (by assumption) ?restbtV8; (case hybtV8 => ((intro w' hSw); (try dsimp only at hSw); go_simp; (try with_reducible rfl))); try go_frame)
            (refine wpAnyH_take (i := 9) (v := undef) (by simp only [List.getElem?_toArray, List.getElem?_cons_succ, List.getElem?_cons_zero]; rfl) (by kernel_rfl) (by kernel_rfl) (by kernel_rfl) (fun _ _ _ h => h) (Or.inr ⟨by kernel_rfl, rfl⟩) (by assumption) ?_; try go_frame)
            (refine wpAnyH_take (i := 10) (v := undef) (by simp only [List.getElem?_toArray, List.getElem?_cons_succ, List.getElem?_cons_zero]; rfl) (by kernel_rfl) (by kernel_rfl) (by kernel_rfl) (fun _ _ _ h => h) (Or.inr ⟨by kernel_rfl, rfl⟩) (by assumption) ?_; try go_frame)
            (refine wpAnyH_take (i := 11) (v := undef) (by simp only [List.getElem?_toArray, List.getElem?_cons_succ, List.getElem?_cons_zero]; rfl) (by kernel_rfl) (by kernel_rfl) (by kernel_rfl) (fun _ _ _ h => h) (Or.inr ⟨by kernel_rfl, rfl⟩) (by assumption) ?_; try go_frame)
            (refine wpAnyH_take (i := 12) (v := undef) (by simp only [List.getElem?_toArray, List.getElem?_cons_succ, List.getElem?_cons_zero]; rfl) (by kernel_rfl) (by kernel_rfl) (by kernel_rfl) (fun _ _ _ h => h) (Or.inr ⟨by kernel_rfl, rfl⟩) (by assumption) ?_; try go_frame)
            (refine wpAnyH_take (i := 13) (v := undef) (by simp only [List.getElem?_toArray, List.getElem?_cons_succ, List.getElem?_cons_zero]; rfl) (by kernel_rfl) (by kernel_rfl) (by kernel_rfl) (fun _ _ _ h => h) (Or.inr ⟨by kernel_rfl, rfl⟩) (by assumption) ?_; try go_frame)
            (refine wpAnyH_take (i := 14) (v := ?vbtV14) (by simp only [List.getElem?_toArray, List.getElem?_cons_succ, List.getElem?_cons_zero]; rfl) (by kernel_rfl) (by kernel_rfl) (by kernel_rfl) (fun _ _ _ h => h) (Or.inl ⟨by kernel_rfl, ?hybtV14⟩) (by assumption) ?restbtV14; (case hybtV14 => ((intro w' hSw); (try dsimp only at hSw); go_simp; (try with_reducible rfl))); try go_frame)
            (refine wpAnyH_take (i := 15) (v := ?vbtV15) (by simp only [List.getElem?_toArray, List.getElem?_cons_succ, List.getElem?_cons_zero]; rfl) (by kernel_rfl) (by kernel_rfl) (by kernel_rfl) (fun _ _ _ h => h) (Or.inl ⟨by kernel_rfl, ?hybtV15⟩) (by assumption) ?restbtV15; (case hybtV15 => ((intro w' hSw); (try dsimp only at hSw); go_simp; (try with_reducible rfl))); try go_frame)
            (refine wpAnyH_take (i := 16) (v := ?vbtV16) (by simp only [List.getElem?_toArray, List.getElem?_cons_succ, List.getElem?_cons_zero]; rfl) (by kernel_rfl) (by kernel_rfl) (by kernel_rfl) (fun _ _ _ h => h) (Or.inl ⟨by kernel_rfl, ?hybtV16⟩) (by assumption) ?restbtV16; (case hybtV16 => ((intro w' hSw); (try dsimp only at hSw); go_simp; (try with_reducible rfl))); try go_frame)
            (refine wpAnyH_take (i := 17) (v := .agg (smC t (.slice ah nh ch) (.slice ag ng cg)).toArray) (by simp only [List.getElem?_toArray, List.getElem?_cons_succ, List.getElem?_cons_zero]; rfl) (by kernel_rfl) (by kernel_rfl) (by kernel_rfl) (fun _ _ _ h => h) (yieldsIf_load_mid (by kernel_rfl) 70 _ (by rfl) P 0 (by rfl) (smC t (.slice ah nh ch) (.slice ag ng cg)) _ (fun w2 h => range_below HRP.out (hBelV w2 h)) Try.underlying70 (by rfl) infoSm) (by assumption) ?restbtV17; try go_frame)
            refine wpAnyH_ready (rs := [18]) (by kernel_rfl) (by simp) ?_
            refine AllReadyH.cons (by simp only [List.getElem?_toArray, List.getElem?_cons_succ, List.getElem?_cons_zero]; rfl) (fun K hK => ?_) AllReadyH.nil
            first | (go_at_call 68; refine (hst _ (HFH.out.below (hBelV _ (by assumption))) (HFG.out.below (hBelV _ (by assumption)))).mono ?_; rintro r wN ⟨rfl, hbN⟩) | (go_simp; (go_at_call 68; refine (hst _ (HFH.out.below (hBelV _ (by assumption))) (HFG.out.below (hBelV _ (by assumption)))).mono ?_; rintro r wN ⟨rfl, hbN⟩))
            try (go_wp2_with fail)
            refine hK.out _ _ ?_ (fun hHeld => ?_)
            · (try dsimp only); exact hkeepV _ _ hbN (by assumption)
            clear hK K
            try go_frame
            (refine wpAnyH_take (i := 19) (v := ?vbtV19) (by simp only [List.getElem?_toArray, List.getElem?_cons_succ, List.getElem?_cons_zero]; rfl) (by kernel_rfl) (by kernel_rfl) (by kernel_rfl) (fun _ _ _ h => h) (Or.inl ⟨by kernel_rfl, ?hybtV19⟩) (by assumption) ?restbtV19; (case hybtV19 => ((intro w' hSw); (try dsimp only at hSw); go_simp; (try with_reducible rfl))); try go_frame)
            (refine wpAnyH_take (i := 20) (v := ?vbtV20) (by simp only [List.getElem?_toArray, List.getElem?_cons_succ, List.getElem?_cons_zero]; rfl) (by kernel_rfl) (by kernel_rfl) (by kernel_rfl) (fun _ _ _ h => h) (Or.inl ⟨by kernel_rfl, ?hybtV20⟩) (by assumption) ?restbtV20; (case hybtV20 => ((intro w' hSw); (try dsimp only at hSw); go_simp; (try with_reducible rfl))); try go_frame)
            refine wpAnyH_done (by kernel_rfl) ?_ _
            refine NoPanic.normal ?_
            have HHX : Hid _ := hBelV _ (by first | assumption | exact hkeepV _ _ hbN (by assumption))
            have c9 := keepc HHX.out (HRP.out 0 (.int .i64 t.id) rfl)
            clear hkeepV hBelV
            go_wp2
            go_roundw
            case rel =>
              refine ⟨k + 1, by omega, by go_num, ?_, ?_, blkF HHX.out HEB.out, btF HBV.out HHX.out⟩
              · show Value.int .i64 t.id = _
                rw [HPID.out]
              · rw [← HSO.out, HAT.out]
                simp [HSK.out, HAN.out, hgt]
            case measure => simp [intOf]; omega
          | false =>
            have HAN : Hid _ := han
            rw [han] at b0
            clear han
            by_cases hq : t.id = 2 * (k : Int) + 1
            · have hd1 : (t.id != 2 * (k : Int) + 1) = false := by simpa using hq
              have HQ : Hid _ := hq
              clear hq
              have hkeepV : ∀ w1 w2 : World, Below w1.heap.size w1 w2 → (w1.cell? ⟨P, 0, none⟩ = some (.int .i64 t.id) ∧ w1.cell? ⟨w.heap.size, 0, none⟩ = some (.bool false) ∧ Below V.heap.size V w1) → (w2.cell? ⟨P, 0, none⟩ = some (.int .i64 t.id) ∧ w2.cell? ⟨w.heap.size, 0, none⟩ = some (.bool false) ∧ Below V.heap.size V w2) := by
                rintro w1 w2 hb ⟨h0, h1, hB⟩
                exact ⟨keepc hb h0, keepc hb h1, bt' hB hb⟩
              have hBelV : ∀ w' : World, (w'.cell? ⟨P, 0, none⟩ = some (.int .i64 t.id) ∧ w'.cell? ⟨w.heap.size, 0, none⟩ = some (.bool false) ∧ Below V.heap.size V w') → Below V.heap.size V w' := fun w' h => h.2.2
              have hV0 : V.cell? ⟨P, 0, none⟩ = some (.int .i64 t.id) ∧ V.cell? ⟨w.heap.size, 0, none⟩ = some (.bool false) ∧ Below V.heap.size V V := ⟨p0, b0, Below.refl _ _⟩
              clear p0 b0
              refine wp_region_noPanic ?_
              refine wp_region_held_drew (S := fun w' => w'.cell? ⟨P, 0, none⟩ = some (.int .i64 t.id) ∧ w'.cell? ⟨w.heap.size, 0, none⟩ = some (.bool false) ∧ Below V.heap.size V w') (by kernel_rfl) ?_ (fun hHeld => ?_)
              · exact hkeepV _ _ ((Below.refl _ _).drew) hV0
              (refine wpAnyH_take (i := 0) (v := ?vctV0) (by simp only [List.getElem?_toArray, List.getElem?_cons_zero]; rfl) (by kernel_rfl) (by kernel_rfl) (by kernel_rfl) (fun _ _ _ h => h) (Or.inl ⟨by kernel_rfl, ?hyctV0⟩) (by assumption) ?restctV0; (case hyctV0 => ((intro w' hSw); (try dsimp only at hSw); go_simp; (try with_reducible rfl))); try go_frame)
              (refine wpAnyH_take (i := 1) (v := ?vctV1) (by simp only [List.getElem?_toArray, List.getElem?_cons_succ, List.getElem?_cons_zero]; rfl) (by kernel_rfl) (by kernel_rfl) (by kernel_rfl) (fun _ _ _ h => h) (Or.inl ⟨by kernel_rfl, ?hyctV1⟩) (by assumption) ?restctV1; (case hyctV1 => ((intro w' hSw); (try dsimp only at hSw); go_simp; (try with_reducible rfl))); try go_frame)
              (refine wpAnyH_take (i := 2) (v := ?vctV2) (by simp only [List.getElem?_toArray, List.getElem?_cons_succ, List.getElem?_cons_zero]; rfl) (by kernel_rfl) (by kernel_rfl) (by kernel_rfl) (fun _ _ _ h => h) (Or.inl ⟨by kernel_rfl, ?hyctV2⟩) (by assumption) ?restctV2; (case hyctV2 => ((intro w' hSw); (try dsimp only at hSw); go_simp; (try with_reducible rfl))); try go_frame)
              (refine wpAnyH_take (i := 3) (v := ?vctV3) (by simp only [List.getElem?_toArray, List.getElem?_cons_succ, List.getElem?_cons_zero]; rfl) (by kernel_rfl) (by kernel_rfl) (by kernel_rfl) (fun _ _ _ h => h) (Or.inl ⟨by kernel_rfl, ?hyctV3⟩) (by assumption) ?restctV3; (case hyctV3 => ((intro w' hSw); (try dsimp only at hSw); go_simp; (try with_reducible rfl))); try go_frame)
              (refine wpAnyH_take (i := 4) (v := ?vctV4) (by simp only [List.getElem?_toArray, List.getElem?_cons_succ, List.getElem?_cons_zero]; rfl) (by kernel_rfl) (by kernel_rfl) (by kernel_rfl) (fun _ _ _ h => h) (Or.inl ⟨by kernel_rfl, ?hyctV4⟩) (by assumption) ?restctV4; (case hyctV4 => ((intro w' hSw); (try dsimp only at hSw); go_simp; (try with_reducible rfl))); try go_frame)
              (refine wpAnyH_take (i := 5) (v := ?vctV5) (by simp only [List.getElem?_toArray, List.getElem?_cons_succ, List.getElem?_cons_zero]; rfl) (by kernel_rfl) (by kernel_rfl) (by kernel_rfl) (fun _ _ _ h => h) (Or.inl ⟨by kernel_rfl, ?hyctV5⟩) (by assumption) ?restctV5; (case hyctV5 => ((intro w' hSw); (try dsimp only at hSw); go_simp; (try with_reducible rfl))); try go_frame)
              (refine wpAnyH_take (i := 6) (v := ?vctV6) (by simp only [List.getElem?_toArray, List.getElem?_cons_succ, List.getElem?_cons_zero]; rfl) (by kernel_rfl) (by kernel_rfl) (by kernel_rfl) (fun _ _ _ h => h) (Or.inl ⟨by kernel_rfl, ?hyctV6⟩) (by assumption) ?restctV6; (case hyctV6 => ((intro w' hSw); (try dsimp only at hSw); go_simp; (try with_reducible rfl))); try go_frame)
              (refine wpAnyH_take (i := 7) (v := ?vctV7) (by simp only [List.getElem?_toArray, List.getElem?_cons_succ, List.getElem?_cons_zero]; rfl) (by kernel_rfl) (by kernel_rfl) (by kernel_rfl) (fun _ _ _ h => h) (Or.inl ⟨by kernel_rfl, ?hyctV7⟩) (by assumption) ?restctV7; (case hyctV7 => ((intro w' hSw); (try dsimp only at hSw); go_simp; (try with_reducible rfl))); try go_frame)
              (refine wpAnyH_take (i := 8) (v := ?vctV8) (by simp only [List.getElem?_toArray, List.getElem?_cons_succ, List.getElem?_cons_zero]; rfl) (by kernel_rfl) (by kernel_rfl) (by kernel_rfl) (fun _ _ _ h => h) (Or.inl ⟨by kernel_rfl, ?hyctV8⟩) (by assumption) ?restctV8; (case hyctV8 => ((intro w' hSw); (try dsimp only at hSw); go_simp; (try with_reducible rfl))); try go_frame)
              (refine wpAnyH_take (i := 9) (v := ?vctV9) (by simp only [List.getElem?_toArray, List.getElem?_cons_succ, List.getElem?_cons_zero]; rfl) (by kernel_rfl) (by kernel_rfl) (by kernel_rfl) (fun _ _ _ h => h) (Or.inl ⟨by kernel_rfl, ?hyctV9⟩) (by assumption) ?restctV9; (case hyctV9 => ((intro w' hSw); (try dsimp only at hSw); go_simp; (try with_reducible rfl))); try go_frame)
              (refine wpAnyH_take (i := 10) (v := ?vctV10) (by simp only [List.getElem?_toArray, List.getElem?_cons_succ, List.getElem?_cons_zero]; rfl) (by kernel_rfl) (by kernel_rfl) (by kernel_rfl) (fun _ _ _ h => h) (Or.inl ⟨by kernel_rfl, ?hyctV10⟩) (by assumption) ?restctV10; (case hyctV10 => ((intro w' hSw); (try dsimp only at hSw); go_simp; (try with_reducible rfl))); try go_frame)
              (refine wpAnyH_take (i := 11) (v := ?vctV11) (by simp only [List.getElem?_toArray, List.getElem?_cons_succ, List.getElem?_cons_zero]; rfl) (by kernel_rfl) (by kernel_rfl) (by kernel_rfl) (fun _ _ _ h => h) (Or.inl ⟨by kernel_rfl, ?hyctV11⟩) (by assumption) ?restctV11; (case hyctV11 => ((intro w' hSw); (try dsimp only at hSw); go_simp; (try with_reducible rfl))); try go_frame)
              refine wpAnyH_ready (rs := [12]) (by kernel_rfl) (by simp) ?_
              refine AllReadyH.cons (by simp only [List.getElem?_toArray, List.getElem?_cons_succ, List.getElem?_cons_zero]; rfl) (fun K hK => ?_) AllReadyH.nil
              first | (go_at_call 67; refine (hid _).mono ?_; rintro r wN ⟨rfl, hbN⟩) | (go_simp; (go_at_call 67; refine (hid _).mono ?_; rintro r wN ⟨rfl, hbN⟩))
              try (go_wp2_with fail)
              refine hK.out _ _ ?_ (fun hHeld => ?_)
              · (try dsimp only); exact hkeepV _ _ hbN (by assumption)
              clear hK K
              try go_frame
              (refine wpAnyH_take (i := 13) (v := ?vctV13) (by simp only [List.getElem?_toArray, List.getElem?_cons_succ, List.getElem?_cons_zero]; rfl) (by kernel_rfl) (by kernel_rfl) (by kernel_rfl) (fun _ _ _ h => h) (Or.inl ⟨by kernel_rfl, ?hyctV13⟩) (by assumption) ?restctV13; (case hyctV13 => ((intro w' hSw); (try dsimp only at hSw); go_simp; (try with_reducible rfl))); try go_frame)
              (refine wpAnyH_take (i := 14) (v := ?vctV14) (by simp only [List.getElem?_toArray, List.getElem?_cons_succ, List.getElem?_cons_zero]; rfl) (by kernel_rfl) (by kernel_rfl) (by kernel_rfl) (fun _ _ _ h => h) (Or.inl ⟨by kernel_rfl, ?hyctV14⟩) (by assumption) ?restctV14; (case hyctV14 => ((intro w' hSw); (try dsimp only at hSw); go_simp; (try with_reducible rfl))); try go_frame)
              (refine wpAnyH_take (i := 15) (v := ?vctV15) (by simp only [List.getElem?_toArray, List.getElem?_cons_succ, List.getElem?_cons_zero]; rfl) (by kernel_rfl) (by kernel_rfl) (by kernel_rfl) (fun _ _ _ h => h) (Or.inl ⟨by kernel_rfl, ?hyctV15⟩) (by assumption) ?restctV15; (case hyctV15 => ((intro w' hSw); (try dsimp only at hSw); go_simp; (try with_reducible rfl))); try go_frame)
              (refine wpAnyH_take (i := 16) (v := ?vctV16) (by simp only [List.getElem?_toArray, List.getElem?_cons_succ, List.getElem?_cons_zero]; rfl) (by kernel_rfl) (by kernel_rfl) (by kernel_rfl) (fun _ _ _ h => h) (Or.inl ⟨by kernel_rfl, ?hyctV16⟩) (by assumption) ?restctV16; (case hyctV16 => ((intro w' hSw); (try dsimp only at hSw); go_simp; (try with_reducible rfl))); try go_frame)
              (refine wpAnyH_take (i := 17) (v := .agg (smC t (.slice ah nh ch) (.slice ag ng cg)).toArray) (by simp only [List.getElem?_toArray, List.getElem?_cons_succ, List.getElem?_cons_zero]; rfl) (by kernel_rfl) (by kernel_rfl) (by kernel_rfl) (fun _ _ _ h => h) (yieldsIf_load_mid (by kernel_rfl) 70 _ (by rfl) P 0 (by rfl) (smC t (.slice ah nh ch) (.slice ag ng cg)) _ (fun w2 h => range_below HRP.out (hBelV w2 h)) Try.underlying70 (by rfl) infoSm) (by assumption) ?restctV17; try go_frame)
              refine wpAnyH_ready (rs := [18]) (by kernel_rfl) (by simp) ?_
              refine AllReadyH.cons (by simp only [List.getElem?_toArray, List.getElem?_cons_succ, List.getElem?_cons_zero]; rfl) (fun K hK => ?_) AllReadyH.nil
              first | (go_at_call 68; refine (hst _ (HFH.out.below (hBelV _ (by assumption))) (HFG.out.below (hBelV _ (by assumption)))).mono ?_; rintro r wN ⟨rfl, hbN⟩) | (go_simp; (go_at_call 68; refine (hst _ (HFH.out.below (hBelV _ (by assumption))) (HFG.out.below (hBelV _ (by assumption)))).mono ?_; rintro r wN ⟨rfl, hbN⟩))
              try (go_wp2_with fail)
              refine hK.out _ _ ?_ (fun hHeld => ?_)
              · (try dsimp only); exact hkeepV _ _ hbN (by assumption)
              clear hK K
              try go_frame
              (refine wpAnyH_take (i := 19) (v := ?vctV19) (by simp only [List.getElem?_toArray, List.getElem?_cons_succ, List.getElem?_cons_zero]; rfl) (by kernel_rfl) (by kernel_rfl) (by kernel_rfl) (fun _ _ _ h => h) (Or.inl ⟨by kernel_rfl, ?hyctV19⟩) (by assumption) ?restctV19; (case hyctV19 => ((intro w' hSw); (try dsimp only at hSw); go_simp; (try with_reducible rfl))); try go_frame)
              (refine wpAnyH_take (i := 20) (v := ?vctV20) (by simp only [List.getElem?_toArray, List.getElem?_cons_succ, List.getElem?_cons_zero]; rfl) (by kernel_rfl) (by kernel_rfl) (by kernel_rfl) (fun _ _ _ h => h) (Or.inl ⟨by kernel_rfl, ?hyctV20⟩) (by assumption) ?restctV20; (case hyctV20 => ((intro w' hSw); (try dsimp only at hSw); go_simp; (try with_reducible rfl))); try go_frame)
              refine wpAnyH_done (by kernel_rfl) ?_ _
              refine NoPanic.normal ?_
              have HHX : Hid _ := hBelV _ (by first | assumption | exact hkeepV _ _ hbN (by assumption))
              have c9 := keepc HHX.out (HRP.out 0 (.int .i64 t.id) rfl)
              clear hkeepV hBelV
              go_wp2
              go_roundw
              case rel =>
                refine ⟨k + 1, by omega, by go_num, ?_, ?_, blkF HHX.out HEB.out, btF HBV.out HHX.out⟩
                · show Value.int .i64 t.id = _
                  rw [HPID.out]
                · rw [← HSO.out, HAT.out]
                  simp [HSK.out, HAN.out, HQ.out]
                  intro _
                  exact Or.inr (by have := HQ.out; omega)
              case measure => simp [intOf]; omega
            · have hd1 : (t.id != 2 * (k : Int) + 1) = true := by simpa using hq
              have HQ : Hid _ := hq
              clear hq
              have hkeepV : ∀ w1 w2 : World, Below w1.heap.size w1 w2 → (w1.cell? ⟨P, 0, none⟩ = some (.int .i64 t.id) ∧ w1.cell? ⟨w.heap.size, 0, none⟩ = some (.bool false) ∧ Below V.heap.size V w1) → (w2.cell? ⟨P, 0, none⟩ = some (.int .i64 t.id) ∧ w2.cell? ⟨w.heap.size, 0, none⟩ = some (.bool false) ∧ Below V.heap.size V w2) := by
                rintro w1 w2 hb ⟨h0, h1, hB⟩
                exact ⟨keepc hb h0, keepc hb h1, bt' hB hb⟩
              have hBelV : ∀ w' : World, (w'.cell? ⟨P, 0, none⟩ = some (.int .i64 t.id) ∧ w'.cell? ⟨w.heap.size, 0, none⟩ = some (.bool false) ∧ Below V.heap.size V w') → Below V.heap.size V w' := fun w' h => h.2.2
              have hV0 : V.cell? ⟨P, 0, none⟩ = some (.int .i64 t.id) ∧ V.cell? ⟨w.heap.size, 0, none⟩ = some (.bool false) ∧ Below V.heap.size V V := ⟨p0, b0, Below.refl _ _⟩
              clear p0 b0
              refine wp_region_noPanic ?_
              refine wp_region_held_drew (S := fun w' => w'.cell? ⟨P, 0, none⟩ = some (.int .i64 t.id) ∧ w'.cell? ⟨w.heap.size, 0, none⟩ = some (.bool false) ∧ Below V.heap.size V w') (by kernel_rfl) ?_ (fun hHeld => ?_)
              · exact hkeepV _ _ ((Below.refl _ _).drew) hV0
              (refine wpAnyH_take (i := 0) (v := ?vdtV0) (by simp only [List.getElem?_toArray, List.getElem?_cons_zero]; rfl) (by kernel_rfl) (by kernel_rfl) (by kernel_rfl) (fun _ _ _ h => h) (Or.inl ⟨by kernel_rfl, ?hydtV0⟩) (by assumption) ?restdtV0; (case hydtV0 => ((intro w' hSw); (try dsimp only at hSw); go_simp; (try with_reducible rfl))); try go_frame)
              (refine wpAnyH_take (i := 1) (v := ?vdtV1) (by simp only [List.getElem?_toArray, List.getElem?_cons_succ, List.getElem?_cons_zero]; rfl) (by kernel_rfl) (by kernel_rfl) (by kernel_rfl) (fun _ _ _ h => h) (Or.inl ⟨by kernel_rfl, ?hydtV1⟩) (by assumption) ?restdtV1; (case hydtV1 => ((intro w' hSw); (try dsimp only at hSw); go_simp; (try with_reducible rfl))); try go_frame)
              (refine wpAnyH_take (i := 2) (v := ?vdtV2) (by simp only [List.getElem?_toArray, List.getElem?_cons_succ, List.getElem?_cons_zero]; rfl) (by kernel_rfl) (by kernel_rfl) (by kernel_rfl) (fun _ _ _ h => h) (Or.inl ⟨by kernel_rfl, ?hydtV2⟩) (by assumption) ?restdtV2; (case hydtV2 => ((intro w' hSw); (try dsimp only at hSw); go_simp; (try with_reducible rfl))); try go_frame)
              (refine wpAnyH_take (i := 3) (v := ?vdtV3) (by simp only [List.getElem?_toArray, List.getElem?_cons_succ, List.getElem?_cons_zero]; rfl) (by kernel_rfl) (by kernel_rfl) (by kernel_rfl) (fun _ _ _ h => h) (Or.inl ⟨by kernel_rfl, ?hydtV3⟩) (by assumption) ?restdtV3; (case hydtV3 => ((intro w' hSw); (try dsimp only at hSw); go_simp; (try with_reducible rfl))); try go_frame)
              (refine wpAnyH_take (i := 4) (v := ?vdtV4) (by simp only [List.getElem?_toArray, List.getElem?_cons_succ, List.getElem?_cons_zero]; rfl) (by kernel_rfl) (by kernel_rfl) (by kernel_rfl) (fun _ _ _ h => h) (Or.inl ⟨by kernel_rfl, ?hydtV4⟩) (by assumption) ?restdtV4; (case hydtV4 => ((intro w' hSw); (try dsimp only at hSw); go_simp; (try with_reducible rfl))); try go_frame)
              (refine wpAnyH_take (i := 5) (v := ?vdtV5) (by simp only [List.getElem?_toArray, List.getElem?_cons_succ, List.getElem?_cons_zero]; rfl) (by kernel_rfl) (by kernel_rfl) (by kernel_rfl) (fun _ _ _ h => h) (Or.inl ⟨by kernel_rfl, ?hydtV5⟩) (by assumption) ?restdtV5; (case hydtV5 => ((intro w' hSw); (try dsimp only at hSw); go_simp; (try with_reducible rfl))); try go_frame)
              (refine wpAnyH_take (i := 6) (v := ?vdtV6) (by simp only [List.getElem?_toArray, List.getElem?_cons_succ, List.getElem?_cons_zero]; rfl) (by kernel_rfl) (by kernel_rfl) (by kernel_rfl) (fun _ _ _ h => h) (Or.inl ⟨by kernel_rfl, ?hydtV6⟩) (by assumption) ?restdtV6; (case hydtV6 => ((intro w' hSw); (try dsimp only at hSw); go_simp; (try with_reducible rfl))); try go_frame)
              (refine wpAnyH_take (i := 7) (v := ?vdtV7) (by simp only [List.getElem?_toArray, List.getElem?_cons_succ, List.getElem?_cons_zero]; rfl) (by kernel_rfl) (by kernel_rfl) (by kernel_rfl) (fun _ _ _ h => h) (Or.inl ⟨by kernel_rfl, ?hydtV7⟩) (by assumption) ?restdtV7; (case hydtV7 => ((intro w' hSw); (try dsimp only at hSw); go_simp; (try with_reducible rfl))); try go_frame)
              (refine wpAnyH_take (i := 8) (v := ?vdtV8) (by simp only [List.getElem?_toArray, List.getElem?_cons_succ, List.getElem?_cons_zero]; rfl) (by kernel_rfl) (by kernel_rfl) (by kernel_rfl) (fun _ _ _ h => h) (Or.inl ⟨by kernel_rfl, ?hydtV8⟩) (by assumption) ?restdtV8; (case hydtV8 => ((intro w' hSw); (try dsimp only at hSw); go_simp; (try with_reducible rfl))); try go_frame)
              (refine wpAnyH_take (i := 9) (v := ?vdtV9) (by simp only [List.getElem?_toArray, List.getElem?_cons_succ, List.getElem?_cons_zero]; rfl) (by kernel_rfl) (by kernel_rfl) (by kernel_rfl) (fun _ _ _ h => h) (Or.inl ⟨by kernel_rfl, ?hydtV9⟩) (by assumption) ?restdtV9; (case hydtV9 => ((intro w' hSw); (try dsimp only at hSw); go_simp; (try with_reducible rfl))); try go_frame)
              (refine wpAnyH_take (i := 10) (v := ?vdtV10) (by simp only [List.getElem?_toArray, List.getElem?_cons_succ, List.getElem?_cons_zero]; rfl) (by kernel_rfl) (by kernel_rfl) (by kernel_rfl) (fun _ _ _ h => h) (Or.inl ⟨by kernel_rfl, ?hydtV10⟩) (by assumption) ?restdtV10; (case hydtV10 => ((intro w' hSw); (try dsimp only at hSw); go_simp; (try with_reducible rfl))); try go_frame)
              (refine wpAnyH_take (i := 11) (v := ?vdtV11) (by simp only [List.getElem?_toArray, List.getElem?_cons_succ, List.getElem?_cons_zero]; rfl) (by kernel_rfl) (by kernel_rfl) (by kernel_rfl) (fun _ _ _ h => h) (Or.inl ⟨by kernel_rfl, ?hydtV11⟩) (by assumption) ?restdtV11; (case hydtV11 => ((intro w' hSw); (try dsimp only at hSw); go_simp; (try with_reducible rfl))); try go_frame)
              refine wpAnyH_ready (rs := [12]) (by kernel_rfl) (by simp) ?_
              refine AllReadyH.cons (by simp only [List.getElem?_toArray, List.getElem?_cons_succ, List.getElem?_cons_zero]; rfl) (fun K hK => ?_) AllReadyH.nil
              first | (go_at_call 67; refine (hid _).mono ?_; rintro r wN ⟨rfl, hbN⟩) | (go_simp; (go_at_call 67; refine (hid _).mono ?_; rintro r wN ⟨rfl, hbN⟩))
              try (go_wp2_with fail)
              refine hK.out _ _ ?_ (fun hHeld => ?_)
              · (try dsimp only); exact hkeepV _ _ hbN (by assumption)
              clear hK K
              try go_frame
              (refine wpAnyH_take (i := 13) (v := ?vdtV13) (by simp only [List.getElem?_toArray, List.getElem?_cons_succ, List.getElem?_cons_zero]; rfl) (by kernel_rfl) (by kernel_rfl) (by kernel_rfl) (fun _ _ _ h => h) (Or.inl ⟨by kernel_rfl, ?hydtV13⟩) (by assumption) ?restdtV13; (case hydtV13 => ((intro w' hSw); (try dsimp only at hSw); go_simp; (try with_reducible rfl))); try go_frame)
              (refine wpAnyH_take (i := 14) (v := ?vdtV14) (by simp only [List.getElem?_toArray, List.getElem?_cons_succ, List.getElem?_cons_zero]; rfl) (by kernel_rfl) (by kernel_rfl) (by kernel_rfl) (fun _ _ _ h => h) (Or.inl ⟨by kernel_rfl, ?hydtV14⟩) (by assumption) ?restdtV14; (case hydtV14 => ((intro w' hSw); (try dsimp only at hSw); go_simp; (try with_reducible rfl))); try go_frame)
              (refine wpAnyH_take (i := 15) (v := ?vdtV15) (by simp only [List.getElem?_toArray, List.getElem?_cons_succ, List.getElem?_cons_zero]; rfl) (by kernel_rfl) (by kernel_rfl) (by kernel_rfl) (fun _ _ _ h => h) (Or.inl ⟨by kernel_rfl, ?hydtV15⟩) (by assumption) ?restdtV15; (case hydtV15 => ((intro w' hSw); (try dsimp only at hSw); go_simp; (try with_reducible rfl))); try go_frame)
              (refine wpAnyH_take (i := 16) (v := ?vdtV16) (by simp only [List.getElem?_toArray, List.getElem?_cons_succ, List.getElem?_cons_zero]; rfl) (by kernel_rfl) (by kernel_rfl) (by kernel_rfl) (fun _ _ _ h => h) (Or.inl ⟨by kernel_rfl, ?hydtV16⟩) (by assumption) ?restdtV16; (case hydtV16 => ((intro w' hSw); (try dsimp only at hSw); go_simp; (try with_reducible rfl))); try go_frame)
              (refine wpAnyH_take (i := 17) (v := undef) (by simp only [List.getElem?_toArray, List.getElem?_cons_succ, List.getElem?_cons_zero]; rfl) (by kernel_rfl) (by kernel_rfl) (by kernel_rfl) (fun _ _ _ h => h) (Or.inr ⟨by kernel_rfl, rfl⟩) (by assumption) ?_; try go_frame)
              (refine wpAnyH_take (i := 18) (v := undef) (by simp only [List.getElem?_toArray, List.getElem?_cons_succ, List.getElem?_cons_zero]; rfl) (by kernel_rfl) (by kernel_rfl) (by kernel_rfl) (fun _ _ _ h => h) (Or.inr ⟨by kernel_rfl, rfl⟩) (by assumption) ?_; try go_frame)
              (refine wpAnyH_take (i := 19) (v := undef) (by simp only [List.getElem?_toArray, List.getElem?_cons_succ, List.getElem?_cons_zero]; rfl) (by kernel_rfl) (by kernel_rfl) (by kernel_rfl) (fun _ _ _ h => h) (Or.inr ⟨by kernel_rfl, rfl⟩) (by assumption) ?_; try go_frame)
              (refine wpAnyH_take (i := 20) (v := ?vdtV20) (by simp only [List.getElem?_toArray, List.getElem?_cons_succ, List.getElem?_cons_zero]; rfl) (by kernel_rfl) (by kernel_rfl) (by kernel_rfl) (fun _ _ _ h => h) (Or.inl ⟨by kernel_rfl, ?hydtV20⟩) (by assumption) ?restdtV20; (case hydtV20 => ((intro w' hSw); (try dsimp only at hSw); go_simp; (try with_reducible rfl))); try go_frame)
              refine wpAnyH_done (by kernel_rfl) ?_ _
              refine NoPanic.normal ?_
              go_wp2
              go_ret
              refine ⟨?_, btF HBV.out (hBelV _ (by assumption))⟩
              have hend : R = false := by
                rw [← HSO.out, HAT.out]
                have hx : decide (t.id = 2 * (k : Int) + 1) = false := by rw [decide_eq_false_iff_not]; exact HQ.out
                rw [hx, HAN.out]
                simp
              rw [hend]
              rfl
    · have hkn : k = n := by omega
      have hRt : R = true := by
        rw [← HSO.out, List.drop_of_length_le (by rw [HN.out]; omega)]
        rfl
      go_wp2
      go_ret
      exact ⟨by rw [hRt]; rfl, HBK.out⟩

set_option maxRecDepth 100000 in
set_option maxHeartbeats 8000000 in
theorem implEndOk (e : Ed) (o i s q : Value) (w : World) (he : EdV w e o i s q) (hbd : EdBd e) :
    Calls Try.prog 22 #[.agg (edC e o i s q)] w fun r w' => r = .returned (.bool (edOk e)) ∧ Below w.heap.size w w' := by
  have HV : Hid _ := he
  have HBD : Hid _ := hbd
  obtain ⟨ao, no, co, rfl, fo⟩ := he.out
  obtain ⟨ai, ni, ci, rfl, fi⟩ := he.inn
  obtain ⟨xs, ⟨a, c, rfl, hrw⟩, hsm⟩ := he.sts
  obtain ⟨aq, cq, rfl, hrq⟩ := he.wait
  have HFO : Hid (Fs w ao no co e.out) := fo
  have HFI : Hid (Fs w ai ni ci e.inn) := fi
  have HFQ : Hid (RdRow w 4 (.slice aq e.wait.length cq) e.wait.length (cellsFr e.wait)) := ⟨aq, cq, rfl, hrq⟩
  have hcz := hbd.came
  unfold maxLen at hcz
  have S0 := (SB.start w).alloc (edC e (.slice ao no co) (.slice ai ni ci) (.slice a e.sts.length c) (.slice aq e.wait.length cq)) 30
  have HS0 : Hid _ := S0
  have p1 := fun W (h : Below w.heap.size w W) => endStreamsOk_any e (.slice ao no co) (.slice ai ni ci) (.slice a e.sts.length c) (.slice aq e.wait.length cq) W (EdV.below HV.out h) HBD.out
  have p2 := fun W (h : Below w.heap.size w W) => endWaitOk_any e.wait (.slice aq e.wait.length cq) W (HFQ.out.below h) HBD.out.m HBD.out.wait
  have p3 := fun W (h : Below w.heap.size w W) => implTableOk e.out ao no co e.outM W (HFO.out.below h) HBD.out.out (by have := HFO.out.len; have := HBD.out.outn; omega)
  have p4 := fun W (h : Below w.heap.size w W) => implTableOk e.inn ai ni ci e.innM W (HFI.out.below h) HBD.out.inn (by have := HFI.out.len; have := HBD.out.innn; omega)
  have p5 := fun W => implFlowOk e.fl W
  unfold Fw.val at p5
  obtain ⟨R, hR⟩ : ∃ R, edOk e = R := ⟨_, rfl⟩
  have HRR : Hid (edOk e = R) := hR
  rw [hR]
  clear hR S0 fo fi hrw hsm hrq he hbd
  go_enter Try.func22, Try.ntmps22
  go_upto_region 1 with fail
  refine wabsW (fun V => SB w V [(w.heap.size, edC e (.slice ao no co) (.slice ai ni ci) (.slice a e.sts.length c) (.slice aq e.wait.length cq), 30)]) HS0.out ?_
  clear HS0
  rintro V1 S1
  have HS : Hid _ := S1
  clear S1
  cases h1 : smsOk e.ans 0 0 e.sts with
  | false =>
    rw [h1] at p1
    have H1 : Hid _ := h1
    clear h1
    go_wp2_with (first | (refine wpList_load_row rfl 30 _ rfl w.heap.size rfl 30 (edC e (.slice ao no co) (.slice ai ni ci) (.slice a e.sts.length c) (.slice aq e.wait.length cq)) (0, 0) _ (HS.out.at 0 rfl) Try.underlying30 rfl infoEd ?_) | (go_at_call 45; refine (p1 _ HS.out.bel).mono ?_; rintro r w0 ⟨rfl, hb⟩; refine Hid.out ?_))
    refine hidI ?_
    replace HS : Hid _ := HS.out.below hb
    clear hb p1 
    go_wp2
    go_ret
    exact ⟨(by have h : edOk e = false := (by unfold edOk; simp [H1.out]); rw [← HRR.out, h]; rfl), HS.out.bel⟩
  | true =>
    rw [h1] at p1
    have H1 : Hid _ := h1
    clear h1
    cases h2 : (decide (e.wait.length ≤ 60) && e.wait.all frOk) with
    | false =>
      rw [h2] at p2
      have H2 : Hid _ := h2
      clear h2
      go_wp2_with (first | (refine wpList_load_row rfl 30 _ rfl w.heap.size rfl 30 (edC e (.slice ao no co) (.slice ai ni ci) (.slice a e.sts.length c) (.slice aq e.wait.length cq)) (0, 0) _ (HS.out.at 0 rfl) Try.underlying30 rfl infoEd ?_) | (go_at_call 45; refine (p1 _ HS.out.bel).mono ?_; rintro r w0 ⟨rfl, hb⟩; refine Hid.out ?_))
      refine hidI ?_
      replace HS : Hid _ := HS.out.below hb
      clear hb p1 
      have q9 := cellE (HS.out.at 0 rfl) 9 (.slice aq e.wait.length cq) rfl
      go_wp2_with (go_at_call 46; refine (p2 _ HS.out.bel).mono ?_; rintro r w1 ⟨rfl, hb⟩; refine Hid.out ?_)
      refine hidI ?_
      replace HS : Hid _ := HS.out.below hb
      clear hb p2 q9
      go_wp2
      go_ret
      exact ⟨(by have h : edOk e = false := (by unfold edOk; cases hq : e.wait.all frOk; (simp); (have hz := H2.out; rw [hq, Bool.and_true] at hz; rw [hz]; simp)); rw [← HRR.out, h]; rfl), HS.out.bel⟩
    | true =>
      rw [h2] at p2
      have H2 : Hid _ := h2
      clear h2
      by_cases h3 : e.came.size ≤ 600
      rotate_left
      · have hx : ¬ (e.came.size : Int) ≤ 600 := by omega
        have H3 : Hid _ := h3
        clear h3
        go_wp2_with (first | (refine wpList_load_row rfl 30 _ rfl w.heap.size rfl 30 (edC e (.slice ao no co) (.slice ai ni ci) (.slice a e.sts.length c) (.slice aq e.wait.length cq)) (0, 0) _ (HS.out.at 0 rfl) Try.underlying30 rfl infoEd ?_) | (go_at_call 45; refine (p1 _ HS.out.bel).mono ?_; rintro r w0 ⟨rfl, hb⟩; refine Hid.out ?_))
        refine hidI ?_
        replace HS : Hid _ := HS.out.below hb
        clear hb p1 
        have q9 := cellE (HS.out.at 0 rfl) 9 (.slice aq e.wait.length cq) rfl
        go_wp2_with (go_at_call 46; refine (p2 _ HS.out.bel).mono ?_; rintro r w1 ⟨rfl, hb⟩; refine Hid.out ?_)
        refine hidI ?_
        replace HS : Hid _ := HS.out.below hb
        clear hb p2 q9
        have q5 := cellE (HS.out.at 0 rfl) 5 (.string e.came) rfl
        go_wp2
        go_ret
        exact ⟨(by have h : edOk e = false := (by unfold edOk; have := decide_eq_false H3.out; simp [this]); rw [← HRR.out, h]; rfl), HS.out.bel⟩
      have hx : (e.came.size : Int) ≤ 600 := by omega
      have H3 : Hid _ := h3
      clear h3
      cases h4 : tOk e.out e.outM with
      | false =>
        rw [h4] at p3
        have H4 : Hid _ := h4
        clear h4
        go_wp2_with (first | (refine wpList_load_row rfl 30 _ rfl w.heap.size rfl 30 (edC e (.slice ao no co) (.slice ai ni ci) (.slice a e.sts.length c) (.slice aq e.wait.length cq)) (0, 0) _ (HS.out.at 0 rfl) Try.underlying30 rfl infoEd ?_) | (go_at_call 45; refine (p1 _ HS.out.bel).mono ?_; rintro r w0 ⟨rfl, hb⟩; refine Hid.out ?_))
        refine hidI ?_
        replace HS : Hid _ := HS.out.below hb
        clear hb p1 
        have q9 := cellE (HS.out.at 0 rfl) 9 (.slice aq e.wait.length cq) rfl
        go_wp2_with (go_at_call 46; refine (p2 _ HS.out.bel).mono ?_; rintro r w1 ⟨rfl, hb⟩; refine Hid.out ?_)
        refine hidI ?_
        replace HS : Hid _ := HS.out.below hb
        clear hb p2 q9
        have q5 := cellE (HS.out.at 0 rfl) 5 (.string e.came) rfl
        have q1 := cellE (HS.out.at 0 rfl) 1 (.slice ao no co) rfl
        have q2 := cellE (HS.out.at 0 rfl) 2 (.int .i64 e.outM) rfl
        go_wp2_with (go_at_call 47; refine (p3 _ HS.out.bel).mono ?_; rintro r w3 ⟨rfl, hb⟩; refine Hid.out ?_)
        refine hidI ?_
        replace HS : Hid _ := HS.out.below hb
        clear hb p3 q1 q2
        go_wp2
        go_ret
        exact ⟨(by have h : edOk e = false := (by unfold edOk; simp [H4.out]); rw [← HRR.out, h]; rfl), HS.out.bel⟩
      | true =>
        rw [h4] at p3
        have H4 : Hid _ := h4
        clear h4
        cases h5 : tOk e.inn e.innM with
        | false =>
          rw [h5] at p4
          have H5 : Hid _ := h5
          clear h5
          go_wp2_with (first | (refine wpList_load_row rfl 30 _ rfl w.heap.size rfl 30 (edC e (.slice ao no co) (.slice ai ni ci) (.slice a e.sts.length c) (.slice aq e.wait.length cq)) (0, 0) _ (HS.out.at 0 rfl) Try.underlying30 rfl infoEd ?_) | (go_at_call 45; refine (p1 _ HS.out.bel).mono ?_; rintro r w0 ⟨rfl, hb⟩; refine Hid.out ?_))
          refine hidI ?_
          replace HS : Hid _ := HS.out.below hb
          clear hb p1 
          have q9 := cellE (HS.out.at 0 rfl) 9 (.slice aq e.wait.length cq) rfl
          go_wp2_with (go_at_call 46; refine (p2 _ HS.out.bel).mono ?_; rintro r w1 ⟨rfl, hb⟩; refine Hid.out ?_)
          refine hidI ?_
          replace HS : Hid _ := HS.out.below hb
          clear hb p2 q9
          have q5 := cellE (HS.out.at 0 rfl) 5 (.string e.came) rfl
          have q1 := cellE (HS.out.at 0 rfl) 1 (.slice ao no co) rfl
          have q2 := cellE (HS.out.at 0 rfl) 2 (.int .i64 e.outM) rfl
          go_wp2_with (go_at_call 47; refine (p3 _ HS.out.bel).mono ?_; rintro r w3 ⟨rfl, hb⟩; refine Hid.out ?_)
          refine hidI ?_
          replace HS : Hid _ := HS.out.below hb
          clear hb p3 q1 q2
          have q3 := cellE (HS.out.at 0 rfl) 3 (.slice ai ni ci) rfl
          have q4 := cellE (HS.out.at 0 rfl) 4 (.int .i64 e.innM) rfl
          go_wp2_with (go_at_call 47; refine (p4 _ HS.out.bel).mono ?_; rintro r w4 ⟨rfl, hb⟩; refine Hid.out ?_)
          refine hidI ?_
          replace HS : Hid _ := HS.out.below hb
          clear hb p4 q3 q4
          go_wp2
          go_ret
          exact ⟨(by have h : edOk e = false := (by unfold edOk; simp [H5.out]); rw [← HRR.out, h]; rfl), HS.out.bel⟩
        | true =>
          rw [h5] at p4
          have H5 : Hid _ := h5
          clear h5
          cases h6 : flOk e.fl with
          | false =>
            rw [h6] at p5
            have H6 : Hid _ := h6
            clear h6
            go_wp2_with (first | (refine wpList_load_row rfl 30 _ rfl w.heap.size rfl 30 (edC e (.slice ao no co) (.slice ai ni ci) (.slice a e.sts.length c) (.slice aq e.wait.length cq)) (0, 0) _ (HS.out.at 0 rfl) Try.underlying30 rfl infoEd ?_) | (go_at_call 45; refine (p1 _ HS.out.bel).mono ?_; rintro r w0 ⟨rfl, hb⟩; refine Hid.out ?_))
            refine hidI ?_
            replace HS : Hid _ := HS.out.below hb
            clear hb p1 
            have q9 := cellE (HS.out.at 0 rfl) 9 (.slice aq e.wait.length cq) rfl
            go_wp2_with (go_at_call 46; refine (p2 _ HS.out.bel).mono ?_; rintro r w1 ⟨rfl, hb⟩; refine Hid.out ?_)
            refine hidI ?_
            replace HS : Hid _ := HS.out.below hb
            clear hb p2 q9
            have q5 := cellE (HS.out.at 0 rfl) 5 (.string e.came) rfl
            have q1 := cellE (HS.out.at 0 rfl) 1 (.slice ao no co) rfl
            have q2 := cellE (HS.out.at 0 rfl) 2 (.int .i64 e.outM) rfl
            go_wp2_with (go_at_call 47; refine (p3 _ HS.out.bel).mono ?_; rintro r w3 ⟨rfl, hb⟩; refine Hid.out ?_)
            refine hidI ?_
            replace HS : Hid _ := HS.out.below hb
            clear hb p3 q1 q2
            have q3 := cellE (HS.out.at 0 rfl) 3 (.slice ai ni ci) rfl
            have q4 := cellE (HS.out.at 0 rfl) 4 (.int .i64 e.innM) rfl
            go_wp2_with (go_at_call 47; refine (p4 _ HS.out.bel).mono ?_; rintro r w4 ⟨rfl, hb⟩; refine Hid.out ?_)
            refine hidI ?_
            replace HS : Hid _ := HS.out.below hb
            clear hb p4 q3 q4
            have q7 := cellE (HS.out.at 0 rfl) 7 (.int .i64 e.fl.s) rfl
            have q8 := cellE (HS.out.at 0 rfl) 8 (.int .i64 e.fl.r) rfl
            go_wp2_with (go_at_call 48; refine (p5 _).mono ?_; rintro r w5 ⟨rfl, hb⟩; refine Hid.out ?_)
            refine hidI ?_
            replace HS : Hid _ := HS.out.below hb
            clear hb p5 q7 q8
            go_wp2
            go_ret
            exact ⟨(by have h : edOk e = false := (by unfold edOk; simp [H6.out]); rw [← HRR.out, h]; rfl), HS.out.bel⟩
          | true =>
            rw [h6] at p5
            have H6 : Hid _ := h6
            clear h6
            go_wp2_with (first | (refine wpList_load_row rfl 30 _ rfl w.heap.size rfl 30 (edC e (.slice ao no co) (.slice ai ni ci) (.slice a e.sts.length c) (.slice aq e.wait.length cq)) (0, 0) _ (HS.out.at 0 rfl) Try.underlying30 rfl infoEd ?_) | (go_at_call 45; refine (p1 _ HS.out.bel).mono ?_; rintro r w0 ⟨rfl, hb⟩; refine Hid.out ?_))
            refine hidI ?_
            replace HS : Hid _ := HS.out.below hb
            clear hb p1 
            have q9 := cellE (HS.out.at 0 rfl) 9 (.slice aq e.wait.length cq) rfl
            go_wp2_with (go_at_call 46; refine (p2 _ HS.out.bel).mono ?_; rintro r w1 ⟨rfl, hb⟩; refine Hid.out ?_)
            refine hidI ?_
            replace HS : Hid _ := HS.out.below hb
            clear hb p2 q9
            have q5 := cellE (HS.out.at 0 rfl) 5 (.string e.came) rfl
            have q1 := cellE (HS.out.at 0 rfl) 1 (.slice ao no co) rfl
            have q2 := cellE (HS.out.at 0 rfl) 2 (.int .i64 e.outM) rfl
            go_wp2_with (go_at_call 47; refine (p3 _ HS.out.bel).mono ?_; rintro r w3 ⟨rfl, hb⟩; refine Hid.out ?_)
            refine hidI ?_
            replace HS : Hid _ := HS.out.below hb
            clear hb p3 q1 q2
            have q3 := cellE (HS.out.at 0 rfl) 3 (.slice ai ni ci) rfl
            have q4 := cellE (HS.out.at 0 rfl) 4 (.int .i64 e.innM) rfl
            go_wp2_with (go_at_call 47; refine (p4 _ HS.out.bel).mono ?_; rintro r w4 ⟨rfl, hb⟩; refine Hid.out ?_)
            refine hidI ?_
            replace HS : Hid _ := HS.out.below hb
            clear hb p4 q3 q4
            have q7 := cellE (HS.out.at 0 rfl) 7 (.int .i64 e.fl.s) rfl
            have q8 := cellE (HS.out.at 0 rfl) 8 (.int .i64 e.fl.r) rfl
            go_wp2_with (go_at_call 48; refine (p5 _).mono ?_; rintro r w5 ⟨rfl, hb⟩; refine Hid.out ?_)
            refine hidI ?_
            replace HS : Hid _ := HS.out.below hb
            clear hb p5 q7 q8
            go_wp2
            go_ret
            exact ⟨(by have h : edOk e = true := (by unfold edOk; have h2 := H2.out; simp at h2; have h3 := H3.out; simp [H1.out, H4.out, H5.out, H6.out, h2.1, h3]; exact h2.2); rw [← HRR.out, h]; rfl), HS.out.bel⟩
end Go.Proofs.Ytdnajdobmlgmiaa
