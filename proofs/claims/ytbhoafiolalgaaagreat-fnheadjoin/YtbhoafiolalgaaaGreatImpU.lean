import Derived.Test.YtbhoafiolalgaaaGreatImpP
import Derived.Test.YtbhoafiolalgaaaGreatBH
namespace Go.Proofs.YtbhoafiolalgaaaGreat
open Go.RowKit Go.Shelf
set_option linter.unusedVariables false
attribute [local go_sem] Oper.semAt_some

/-- The signs are stored. -/
theorem wpListIn_storeS {F : Fence} {n : Nat} {w : World} {ops : Array Oper} {rest : List Oper} {o : Oper} {a : Act} {Q : Exit → Act → World → Prop}
    (hg : o.guard = none) (x y : Operand) (hop : o.op = Op.store 108 x y) (c : Array Value) (hc : c.size = 39) (hx : a.eval x = .pointer (some ⟨w.heap.size, 0, none⟩)) (hy : a.eval y = .agg WSv)
    (hK : wpListIn F n Tryz.prog ops Q rest (a.put o.dst undef) (w.alloc (.cells WSv 108))) :
    wpListIn F n Tryz.prog ops Q (o :: rest) a (w.alloc (.cells c 108)) := by
  refine wpListIn_plain hg fun K hK' => ?_
  have hrun := run_storeVar_row (P := Tryz.prog) (w.alloc (.cells c 108)) w.heap.size 108 108 c WSv (heap_alloc_last w _) info49 (by rw [hc]; rfl) WSv_one
  rw [World.setRow_alloc_new] at hrun
  unfold Oper.wpIn
  refine ⟨?_, ?_⟩
  · simp [Oper.about, hop]
  · rw [Oper.semAt_plain F _ _ (by rw [hop]; intro c hc'; cases hc')]
    simp only [execOp, hop, hx, hy, Instr.storeAt, Instr.sureAddr, Sem.run_bind, Sem.run_pure, Result.andThen_ok, hrun]
    exact hK' _ _ hK

theorem own_at {w W : World} {base n : Nat} {v : Value} {xs : List Value} (h : w.ownsRow base 130 2 v n xs) (hb : Below w.heap.size w W) : W.ownsRow base 130 2 v n xs := own_below' h hb
theorem own_low {w : World} {base : Nat} {e : TypeId} {size n : Nat} {v : Value} {xs : List Value} (h : w.ownsRow base e size v n xs) : ∀ g, v.ownBlock = some g → g < w.heap.size := fun g e' => (h.lt g e').2
theorem blk_own {β : Type} (B : Nat) (C : Array Value) (t : TypeId) : Own (fun (_ : β) W => W.heap[B]? = some (.cells C t (0, 0))) := by
  intro s X Y row h hg hrow
  refine (hg.block B (blk_lt h) ?_).trans h
  intro e
  obtain ⟨o, ho, hc⟩ := hrow B e.symm
  rw [h] at ho; cases ho; cases hc

theorem place_P (num bits : Int) (w : World) (P : Int) (b : Bool) (hP : num - 96 + 24 = P) (hb : decide (bits = 7) = b) (h0 : 0 ≤ num) (h1 : num ≤ 255) (b0 : 0 ≤ bits) (b1 : bits ≤ 8) (h : ¬ bits = 5 ∨ 24 ≤ num) :
    Calls Tryz.prog 99 #[.agg #[.int .i64 num, .int .i64 bits]] w fun e w' => e = .returned (.tuple #[.int .i64 P, .bool b]) ∧ Below w.heap.size w w' := by
  have := place_other num bits w h0 h1 b0 b1 h
  rw [hP, hb] at this
  exact this

set_option maxRecDepth 100000 in
set_option maxHeartbeats 2000000 in
theorem ofBits_any (Bn n cap base : Nat) (a : Option Addr) (cs : List (Int × Int)) (hbd : ∀ c ∈ cs, 0 ≤ c.1 ∧ c.1 ≤ 255 ∧ 0 ≤ c.2 ∧ c.2 ≤ 8) (hn : cs.length = n) (hn16 : n ≤ 16) (hcl : (codesQ cs).length ≤ 128) (w : World)
    (hBn : w.heap[Bn]? = some (.cells #[.slice a n cap] 126 (0, 0))) (hrow : w.ownsRow base 130 2 (.slice a n cap) n (cellsC cs)) :
    Calls Tryz.prog 93 #[.func (.func 100) #[] #[.pointer (some ⟨Bn, 0, none⟩)]] w fun e w' => e = .returned (.string (strOfNums (unp (qL (codesQ cs))).1)) ∧ Below w.heap.size w w' := by
  obtain ⟨i5, hi5, h50, h51, h52⟩ := info_parts info5'
  have HBD : Hid (∀ c ∈ cs, 0 ≤ c.1 ∧ c.1 ≤ 255 ∧ 0 ≤ c.2 ∧ c.2 ≤ 8) := hbd
  have HBN : Hid (w.heap[Bn]? = some (.cells #[.slice a n cap] 126 (0, 0))) := hBn
  have HROW : Hid (w.ownsRow base 130 2 (.slice a n cap) n (cellsC cs)) := hrow
  have HN : Hid (cs.length = n) := hn
  clear hbd hBn hrow hn
  refine (callsIn_wide (n := 6)).1 ?_
  refine callsIn_of_wp_marks Tryz.func93 rfl trivial ?_ rfl
  simp only [Tryz.ntmps93, List.size_toArray, List.length_cons, List.length_nil, Nat.reduceAdd, Nat.reduceSub, Array.replicate_succ, Array.replicate_zero, List.push_toArray, List.append_toArray, List.nil_append, List.cons_append]
  gi_wp2_with (first | ((with_reducible refine And.intro ?_ ?_); exact trivial; gi_at_call 72; refine (callsIn_wide.2 (signArray_any _)).mono ?_; rintro e w1 ⟨rfl, hb1⟩) | (refine wpListIn_storeS rfl _ _ rfl _ rfl rfl rfl ?_))
  have hs1 := hb1.size
  obtain ⟨W0, hW0⟩ : ∃ W0, ((((w1.alloc (.cells WSv 108)).alloc (.cells #[] 5)).alloc (.cells #[.slice (some ⟨w1.heap.size + 1, 0, none⟩) 0 0] 22)).alloc (.cells #[.int .i64 0, .int .i64 0] 130)) = W0 := ⟨_, rfl⟩
  have hsz : W0.heap.size = w1.heap.size + 1 + 1 + 1 + 1 := by rw [← hW0]; simp
  have hB0 : Below w.heap.size w W0 := by
    rw [← hW0]
    exact (((hb1.alloc hs1 _).alloc (by simp; omega) _).alloc (by simp; omega) _).alloc (by simp; omega) _
  have hO0 : W0.ownsRow w.heap.size 5 1 (.slice (some ⟨w1.heap.size + 1, 0, none⟩) 0 0) 0 [] := by
    rw [← hW0]
    have := own_zeroU (w1.alloc (.cells WSv 108)) 5
    rw [World.size_alloc] at this
    exact own_base ((this.alloc _).alloc _) (by omega)
  have hBs : W0.heap[w1.heap.size]? = some (.cells WSv 108 (0, 0)) := by
    rw [← hW0]
    exact blk_alloc (blk_alloc (blk_alloc (heap_alloc_last w1 _) _) _) _
  have hBo : Boxed W0 (w1.heap.size + 1 + 1) 22 (.slice (some ⟨w1.heap.size + 1, 0, none⟩) 0 0) := by
    rw [← hW0]
    have := Boxed.new ((w1.alloc (.cells WSv 108)).alloc (.cells #[] 5)) 22 (.slice (some ⟨w1.heap.size + 1, 0, none⟩) 0 0)
    rw [World.size_alloc, World.size_alloc] at this
    exact this.alloc _
  have hBh : Box2 W0 (w1.heap.size + 1 + 1 + 1) 0 0 := by
    rw [← hW0]
    have := heap_alloc_last (((w1.alloc (.cells WSv 108)).alloc (.cells #[] 5)).alloc (.cells #[.slice (some ⟨w1.heap.size + 1, 0, none⟩) 0 0] 22)) (.cells #[.int .i64 0, .int .i64 0] 130)
    rw [World.size_alloc, World.size_alloc, World.size_alloc] at this
    exact this
  rw [hW0]
  clear hW0
  obtain ⟨Bs, hBse⟩ : ∃ Bs, w1.heap.size = Bs := ⟨_, rfl⟩
  rw [hBse] at hsz hO0 hBo hBh hBs hs1 ⊢
  clear hBse hb1
  obtain ⟨G, hG⟩ : ∃ G, Bs + 1 = G := ⟨_, rfl⟩
  rw [hG] at hsz hO0 hBo hBh ⊢
  obtain ⟨Bo, hBoe⟩ : ∃ Bo, G + 1 = Bo := ⟨_, rfl⟩
  rw [hBoe] at hsz hBo hBh ⊢
  obtain ⟨Bh, hBhe⟩ : ∃ Bh, Bo + 1 = Bh := ⟨_, rfl⟩
  rw [hBhe] at hsz hBh ⊢
  have hne : Bo ≠ Bh := by omega
  have hne' : Bh ≠ Bo := by omega
  have hso : Bs ≠ Bo := by omega
  have hsh : Bs ≠ Bh := by omega
  have hwo : w.heap.size ≤ Bo := by omega
  have hwh : w.heap.size ≤ Bh := by omega
  have hW0s : w.heap.size ≤ W0.heap.size := hB0.size
  have hown0 := own_at HROW.out hB0
  have hlow := own_low HROW.out
  refine wpIn_rangeFunc_ownG rfl (by omega) (gf := 100) (lb := #[.pointer (some ⟨Bn, 0, none⟩)]) rfl trivial (enters_of Tryz.func100 (by kernel_rfl) rfl)
    (bits_stops Bn n cap Bo Bh base a cs HBD.out HN.out (by omega) W0 ((hB0.block Bn (blk_lt HBN.out)).trans HBN.out) (by omega) (by omega) (fun e => by have := hlow _ e.symm; omega) (fun e => by have := hlow _ e.symm; omega) hown0) KeepC.trans keepC_b (Below.refl _ _) (fun _ => rfl)
    (fun pre W => ((unp (qL pre)).2.length ≤ 6) ∧ ((∃ v, Boxed W Bo 22 v ∧ W.ownsRow w.heap.size 5 1 v (unp (qL pre)).1.length ((unp (qL pre)).1.map (Value.int .u8)) ∧ True) ∧ (Box2 W Bh (numB (unp (qL pre)).2) ((unp (qL pre)).2.length : Int) ∧ (W.heap[Bs]? = some (.cells WSv 108 (0, 0)) ∧ Below w.heap.size w W))))
    (fun c pre W => (c = .exit 0 ∧ ∀ t, (unp (qL pre ++ t)).1 = (unp (qL pre)).1) ∧ ((∃ v, Boxed W Bo 22 v ∧ W.ownsRow w.heap.size 5 1 v (unp (qL pre)).1.length ((unp (qL pre)).1.map (Value.int .u8)) ∧ True) ∧ Below w.heap.size w W))
    (OwnFrom.and (ownFrom_pure _ _) (OwnFrom.and (Own.from (holdsRow_own w.heap.size Bo 22 5 1 (fun pre => (unp (qL pre)).1.length) (fun pre => (unp (qL pre)).1.map (Value.int .u8)) (fun _ _ => True)) _) (OwnFrom.and (Own.from (box2_own Bh (fun pre => numB (unp (qL pre)).2) (fun pre => ((unp (qL pre)).2.length : Int))) _) (OwnFrom.and (Own.from (blk_own Bs WSv 108) _) (ownFrom_below (Nat.le_refl _) hW0s)))))
    (fun c => OwnFrom.and (ownFrom_pure _ _) (OwnFrom.and (Own.from (holdsRow_own w.heap.size Bo 22 5 1 (fun pre => (unp (qL pre)).1.length) (fun pre => (unp (qL pre)).1.map (Value.int .u8)) (fun _ _ => True)) _) (ownFrom_below (Nat.le_refl _) hW0s)))
    ⟨by simp [qL, unp, unpN], ⟨_, hBo, hO0, trivial⟩, hBh, hBs, hB0⟩
    (fun x => { tmps := #[.func (.func 100) #[] #[.pointer (some ⟨Bn, 0, none⟩)], undef, .string ⟨#[]⟩, .pointer (some ⟨Bs, 0, none⟩), .pointer (some ⟨Bo, 0, none⟩), .pointer (some ⟨Bh, 0, none⟩), .int .i64 x.1, undef, undef, .agg WSv, .slice (some ⟨G, 0, none⟩) 0 0, .func (.func 100) #[] #[.pointer (some ⟨Bn, 0, none⟩)], .int .i64 x.1, undef, undef, undef, undef, undef, undef, undef, undef, undef, undef, undef, undef, undef, undef, undef, undef, undef, undef, undef, undef, undef], defers := [] }) ?assign ?body ?done ?stop
  case assign =>
    intro l x W K hK
    gi_wp2
    exact hK
  case body =>
    rintro l pre ⟨x, hx⟩ W ⟨h6, ⟨v, hv, hrow, _⟩, hbx, hsg, hB⟩ hlt
    have hqs : Hid (qL (pre ++ [⟨x, hx⟩]) = qL pre ++ [x]) := qL_snoc pre ⟨x, hx⟩
    have hLb := qL_bit pre
    have hLl : (qL pre).length ≤ 127 := by rw [qL_length]; omega
    have hul := unp_left_len (qL pre) hLb
    have hpg := packB_len_ge (unp (qL pre)).1
    obtain ⟨L, hL⟩ : ∃ L, qL pre = L := ⟨_, rfl⟩
    rw [hL] at h6 hrow hbx hqs hLb hLl hul hpg
    have D5 : Hid ((unp L).2.length + 1 = 5 → numB ((unp L).2 ++ [x]) < 24 → unp (L ++ [x]) = ((unp L).1 ++ [WS.getD (numB ((unp L).2 ++ [x])).toNat 0], [])) := fun a b => dec_five L x hLb hx a b
    have D6 : Hid ((unp L).2.length + 1 ≤ 6 → ((unp L).2.length + 1 = 5 → 24 ≤ numB ((unp L).2 ++ [x])) → unp (L ++ [x]) = ((unp L).1, (unp L).2 ++ [x])) := fun a b => dec_on L x hLb hx a b
    have D7 : Hid ((unp L).2.length + 1 = 7 → 0 ≤ numB ((unp L).2 ++ [x]) - 96 + 24 ∧ (numB ((unp L).2 ++ [x]) - 96 + 24 < 39 → unp (L ++ [x]) = ((unp L).1 ++ [WS.getD (numB ((unp L).2 ++ [x]) - 96 + 24).toNat 0], [])) ∧ (39 ≤ numB ((unp L).2 ++ [x]) - 96 + 24 → ∀ t, (unp (L ++ [x] ++ t)).1 = (unp L).1)) := fun a => dec_seven L x hLb hx a
    have hnb := numB_bd (unp L).2 (fun b hb => hLb b (by rw [(unp_back L hLb).2.1]; exact List.mem_append_right _ hb))
    have hpw : (2 : Int) ^ (unp L).2.length ≤ 64 := by
      generalize (unp L).2.length = q at h6
      rcases (by omega : q = 0 ∨ q = 1 ∨ q = 2 ∨ q = 3 ∨ q = 4 ∨ q = 5 ∨ q = 6) with rfl | rfl | rfl | rfl | rfl | rfl | rfl <;> decide
    have hMB := numB_snoc (unp L).2 x
    have hol : (unp L).1.length ≤ 26 := by omega
    have HQL : Hid (qL pre = L) := hL
    clear hul hpg hLl hLb hL hlt
    obtain ⟨o, ho⟩ : ∃ o, (unp L).1 = o := ⟨_, rfl⟩
    obtain ⟨q, hq⟩ : ∃ q, (unp L).2 = q := ⟨_, rfl⟩
    rw [ho, hq] at D5 D6 D7
    rw [ho] at hrow hol
    rw [hq] at h6 hbx hnb hpw hMB
    have HO : Hid ((unp L).1 = o) := ho
    clear ho hq
    obtain ⟨N, hN⟩ : ∃ N, numB q = N := ⟨_, rfl⟩
    rw [hN] at hbx hnb hMB
    obtain ⟨n0, n1⟩ := hnb
    have n2 : N < 64 := by omega
    obtain ⟨r, hr⟩ : ∃ r : Int, (q.length : Int) = r := ⟨_, rfl⟩
    rw [hr] at hbx
    have r0 : 0 ≤ r := by omega
    have r1 : r ≤ 6 := by omega
    obtain ⟨M, hM⟩ : ∃ M, 2 * N + x = M := ⟨_, rfl⟩
    have m0 : 0 ≤ M := by omega
    have m1 : M ≤ 127 := by omega
    rw [hM] at hMB
    rw [hMB] at D5 D6 D7
    have HM : Hid (2 * N + x = M) := hM
    have HMB : Hid (numB (q ++ [x]) = M) := hMB
    have HR : Hid ((q.length : Int) = r) := hr
    have HQX : Hid ((q ++ [x]).length = q.length + 1) := by show (q ++ [x]).length = q.length + 1; simp
    clear hN hr hM hMB n1 hpw h6
    by_cases hA : r + 1 = 5 ∧ M < 24
    · skip
      have hr4 : r = 4 := by omega
      subst hr4
      have HRR : Hid ((4 : Int) + 1 = 5) := rfl
      have h24 : M < 24 := hA.2
      have HE : Hid (unp (L ++ [x]) = (o ++ [WS.getD M.toNat 0], [])) := D5.out (by have := HR.out; omega) h24
      clear hA
      obtain ⟨k, hkM⟩ : ∃ k : Nat, M = k := ⟨M.toNat, by omega⟩
      subst hkM
      have hk : k < 39 := by omega
      have hk' : (k : Int) < 39 := by omega
      obtain ⟨c, hc⟩ : ∃ c, WS.getD k 0 = c := ⟨_, rfl⟩
      rw [Int.toNat_natCast, hc] at HE
      have HC : Hid (WS.getD k 0 = c) := hc
      clear hc
      gi_wp2_with (first | (refine wpListIn_load2 rfl _ rfl Bh N 4 rfl hbx ?_) | (refine wpListIn_load2 rfl _ rfl Bh (k : Int) 5 rfl hbx6 ?_) | ((with_reducible refine And.intro ?_ ?_); exact trivial; gi_at_call 98; refine (CallsIn.inRound l (callsIn_wide.2 (with_M N 4 x _ (k : Int) 5 HM.out HRR.out n0 (by omega) hx (by omega) (by omega)))).mono ?_; rintro e w5 ⟨rfl, hb5⟩; have hbx5 := hbx.below hb5; have hv5 := boxed_below hv hb5; have hrow5 := own_below' hrow hb5; have hsg5 := (hb5.block _ (blk_lt hsg)).trans hsg) | (refine wpListIn_store2 rfl _ _ rfl Bh N 4 (k : Int) 5 rfl rfl hbx5 ?_; intro w6 hbx6 hg6; have hv6 := hv5.kept hg6 (by simp; omega); have hrow6 := hrow5.kept hg6 (.inr (hbx5.not_row hrow5).symm); have hsg6 := (hg6.block _ (blk_lt hsg5) (by simp; omega)).trans hsg5; have hs6 : w.heap.size ≤ w6.heap.size := Nat.le_trans (Nat.le_trans hB.size hb5.size) hg6.size) | ((with_reducible refine And.intro ?_ ?_); exact trivial; gi_at_call 99; refine (CallsIn.inRound l (callsIn_wide.2 (place_five _ _ m0 h24))).mono ?_; rintro e w7 ⟨rfl, hb7⟩; have hbx7 := hbx6.below hb7; have hv7 := boxed_below hv6 hb7; have hrow7 := own_below' hrow6 hb7; have hsg7 := (hb7.block _ (blk_lt hsg6)).trans hsg6; have hs7 : w.heap.size ≤ w7.heap.size := Nat.le_trans hs6 hb7.size; have hvc := hv7.cell))
      have hmx : Tryz.prog.follows .mixedOrders = true := by kernel_rfl
      refine wpIn_region_any hmx ?_
      change wpAnyIn _ _ _ _ _ _ _ _ _ (World.drew _)
      obtain ⟨w8, hw8⟩ : ∃ w8, w7.drew = w8 := ⟨_, rfl⟩
      have hb8 : Below w7.heap.size w7 w8 := by rw [← hw8]; exact (Below.refl _ _).drew
      rw [hw8]
      clear hw8
      have hv8 := boxed_below hv7 hb8
      have hrow8 := own_below' hrow7 hb8
      have hbx8 := hbx7.below hb8
      have hsg8 := (hb8.block _ (blk_lt hsg7)).trans hsg7
      have hs8 : w.heap.size ≤ w8.heap.size := Nat.le_trans hs7 hb8.size
      have hvc8 := hv8.cell
      have hvc9 := (hv8.alloc (.cells #[.int .u8 c] 5)).cell
      have hsc : w8.cell? ⟨Bs, k, none⟩ = some (.int .u8 c) := by rw [signs_cell _ _ _ hsg8 k hk, HC.out]
      clear hvc
      refine wpAnyIn_ready (rs := [0, 1]) (by kernel_rfl) (by simp) ?_
      refine AllReadyIn.cons rfl (fun K hK => ?_) ?_
      · go_simp
        refine hK _ _ ?_
        clear hK K
        refine wpAnyIn_ready (rs := [1]) (by kernel_rfl) (by simp) ?_
        refine AllReadyIn.cons rfl (fun K hK => ?_) ?_
        · go_simp
          refine hK _ _ ?_
          clear hK K
          refine wpAnyIn_ready (rs := [2]) (by kernel_rfl) (by simp) ?_
          refine AllReadyIn.cons rfl (fun K hK => ?_) ?_
          · go_simp
            refine hK _ _ ?_
            clear hK K
            refine wpAnyIn_ready (rs := [3]) (by kernel_rfl) (by simp) ?_
            refine AllReadyIn.cons rfl (fun K hK => ?_) ?_
            · go_simp
              refine hK _ _ ?_
              clear hK K
              refine wpAnyIn_ready (rs := [4]) (by kernel_rfl) (by simp) ?_
              refine AllReadyIn.cons rfl (fun K hK => ?_) ?_
              · go_simp
                refine hK _ _ ?_
                clear hK K
                refine wpAnyIn_ready (rs := [5]) (by kernel_rfl) (by simp) ?_
                refine AllReadyIn.cons rfl (fun K hK => ?_) AllReadyIn.nil
                refine stepIn_append _ rfl _ _ 22 rfl w.heap.size 5 i5 (.int .u8 0) 1 1 Tryz.underlying22 hi5 h50 h51 h52 rfl (by decide) _ _ _ rfl (hrow8.alloc _) ⟨w8.heap.size, 0, none⟩ 1 1 [.int .u8 c] rfl rfl (cell_one_new _ _ _) (by simp [Value.oneCell']) (by unfold maxLen; omega) (by omega) (by simp; omega) ?_
                intro v9 w9 hown9 hgrow9
                obtain ⟨g9, cap9, rfl⟩ := ownsRow_succ hown9
                obtain ⟨hv9, hv10, hr10, hk10, hb10⟩ := hv8.appended (by decide) hrow8 hs8 hwo hown9 hgrow9
                have hc9 := hv9.cell
                have hf9 := hv9.frozen
                have hbx9 : Box2 w9 Bh (k : Int) 5 := kept_app hbx8 (by decide) hrow8 hgrow9
                have hsg9 := kept_app hsg8 (by decide) hrow8 hgrow9
                have hbx10 := hbx9.other ⟨Bo, 0, none⟩ (.slice (some ⟨g9, 0, none⟩) (o.length + 1) cap9) hne'
                have hsg10 := (Below.heap_setCell w9 ⟨Bo, 0, none⟩ (.slice (some ⟨g9, 0, none⟩) (o.length + 1) cap9) Bs hso).trans hsg9
                refine hK _ _ ?_
                clear hK K
                refine wpAnyIn_ready (rs := [6]) (by kernel_rfl) (by simp) ?_
                refine AllReadyIn.cons rfl (fun K hK => ?_) AllReadyIn.nil
                go_simp
                refine hK _ _ ?_
                clear hK K
                refine wpAnyIn_done (by kernel_rfl) ?_ _
                gi_wp2_with (refine wpListIn_store2 rfl _ _ rfl Bh (k : Int) 5 0 0 rfl rfl hbx10 ?_; intro w11 hbx11 hg11)
                exact ⟨((((((keepsOthers_of_below hb5).trans (keepsOthers_box2 (hbx.below hb5) hg6)).trans (keepsOthers_of_below hb7)).trans (keepsOthers_of_below hb8)).trans hk10).trans (keepsOthers_box2 hbx10 hg11)).from _, ((((((KeepC.of_below hb5).trans (KeepC.grown2 hg6)).trans (KeepC.of_below hb7)).trans (KeepC.of_below hb8)).trans (KeepC.appended hrow8 hgrow9)).trans (KeepC.grown2 hg11)), by rw [hqs.out, HE.out]; simp, ⟨_, hv10.kept hg11 (by simp; omega), by rw [hqs.out, HE.out, List.length_append, List.map_append]; exact hr10.kept hg11 (.inr (hbx10.not_row hr10).symm), trivial⟩, by rw [hqs.out, HE.out]; exact hbx11, (hg11.block _ (blk_lt hsg10) (by simp; omega)).trans hsg10, ((((hB.trans (hb5.mono hB.size)).trans (below_box2 (Nat.le_trans hB.size hb5.size) hwh hg6)).trans (hb7.mono hs6)).trans (hb8.mono hs7)).trans (hb10.trans (below_box2 (Nat.le_trans hs8 hb10.size) hwh hg11))⟩
              exact AllReadyIn.nil
            exact AllReadyIn.nil
          exact AllReadyIn.nil
        exact AllReadyIn.nil
      refine AllReadyIn.cons rfl (fun K hK => ?_) ?_
      · go_simp
        refine hK _ _ ?_
        clear hK K
        refine wpAnyIn_ready (rs := [0, 2]) (by kernel_rfl) (by simp) ?_
        refine AllReadyIn.cons rfl (fun K hK => ?_) ?_
        · go_simp
          refine hK _ _ ?_
          clear hK K
          refine wpAnyIn_ready (rs := [2]) (by kernel_rfl) (by simp) ?_
          refine AllReadyIn.cons rfl (fun K hK => ?_) ?_
          · go_simp
            refine hK _ _ ?_
            clear hK K
            refine wpAnyIn_ready (rs := [3]) (by kernel_rfl) (by simp) ?_
            refine AllReadyIn.cons rfl (fun K hK => ?_) ?_
            · go_simp
              refine hK _ _ ?_
              clear hK K
              refine wpAnyIn_ready (rs := [4]) (by kernel_rfl) (by simp) ?_
              refine AllReadyIn.cons rfl (fun K hK => ?_) ?_
              · go_simp
                refine hK _ _ ?_
                clear hK K
                refine wpAnyIn_ready (rs := [5]) (by kernel_rfl) (by simp) ?_
                refine AllReadyIn.cons rfl (fun K hK => ?_) AllReadyIn.nil
                refine stepIn_append _ rfl _ _ 22 rfl w.heap.size 5 i5 (.int .u8 0) 1 1 Tryz.underlying22 hi5 h50 h51 h52 rfl (by decide) _ _ _ rfl (hrow8.alloc _) ⟨w8.heap.size, 0, none⟩ 1 1 [.int .u8 c] rfl rfl (cell_one_new _ _ _) (by simp [Value.oneCell']) (by unfold maxLen; omega) (by omega) (by simp; omega) ?_
                intro v9 w9 hown9 hgrow9
                obtain ⟨g9, cap9, rfl⟩ := ownsRow_succ hown9
                obtain ⟨hv9, hv10, hr10, hk10, hb10⟩ := hv8.appended (by decide) hrow8 hs8 hwo hown9 hgrow9
                have hc9 := hv9.cell
                have hf9 := hv9.frozen
                have hbx9 : Box2 w9 Bh (k : Int) 5 := kept_app hbx8 (by decide) hrow8 hgrow9
                have hsg9 := kept_app hsg8 (by decide) hrow8 hgrow9
                have hbx10 := hbx9.other ⟨Bo, 0, none⟩ (.slice (some ⟨g9, 0, none⟩) (o.length + 1) cap9) hne'
                have hsg10 := (Below.heap_setCell w9 ⟨Bo, 0, none⟩ (.slice (some ⟨g9, 0, none⟩) (o.length + 1) cap9) Bs hso).trans hsg9
                refine hK _ _ ?_
                clear hK K
                refine wpAnyIn_ready (rs := [6]) (by kernel_rfl) (by simp) ?_
                refine AllReadyIn.cons rfl (fun K hK => ?_) AllReadyIn.nil
                go_simp
                refine hK _ _ ?_
                clear hK K
                refine wpAnyIn_done (by kernel_rfl) ?_ _
                gi_wp2_with (refine wpListIn_store2 rfl _ _ rfl Bh (k : Int) 5 0 0 rfl rfl hbx10 ?_; intro w11 hbx11 hg11)
                exact ⟨((((((keepsOthers_of_below hb5).trans (keepsOthers_box2 (hbx.below hb5) hg6)).trans (keepsOthers_of_below hb7)).trans (keepsOthers_of_below hb8)).trans hk10).trans (keepsOthers_box2 hbx10 hg11)).from _, ((((((KeepC.of_below hb5).trans (KeepC.grown2 hg6)).trans (KeepC.of_below hb7)).trans (KeepC.of_below hb8)).trans (KeepC.appended hrow8 hgrow9)).trans (KeepC.grown2 hg11)), by rw [hqs.out, HE.out]; simp, ⟨_, hv10.kept hg11 (by simp; omega), by rw [hqs.out, HE.out, List.length_append, List.map_append]; exact hr10.kept hg11 (.inr (hbx10.not_row hr10).symm), trivial⟩, by rw [hqs.out, HE.out]; exact hbx11, (hg11.block _ (blk_lt hsg10) (by simp; omega)).trans hsg10, ((((hB.trans (hb5.mono hB.size)).trans (below_box2 (Nat.le_trans hB.size hb5.size) hwh hg6)).trans (hb7.mono hs6)).trans (hb8.mono hs7)).trans (hb10.trans (below_box2 (Nat.le_trans hs8 hb10.size) hwh hg11))⟩
              exact AllReadyIn.nil
            exact AllReadyIn.nil
          exact AllReadyIn.nil
        refine AllReadyIn.cons rfl (fun K hK => ?_) ?_
        · go_simp
          refine hK _ _ ?_
          clear hK K
          refine wpAnyIn_ready (rs := [0, 3]) (by kernel_rfl) (by simp) ?_
          refine AllReadyIn.cons rfl (fun K hK => ?_) ?_
          · go_simp
            refine hK _ _ ?_
            clear hK K
            refine wpAnyIn_ready (rs := [3]) (by kernel_rfl) (by simp) ?_
            refine AllReadyIn.cons rfl (fun K hK => ?_) ?_
            · go_simp
              refine hK _ _ ?_
              clear hK K
              refine wpAnyIn_ready (rs := [4]) (by kernel_rfl) (by simp) ?_
              refine AllReadyIn.cons rfl (fun K hK => ?_) ?_
              · go_simp
                refine hK _ _ ?_
                clear hK K
                refine wpAnyIn_ready (rs := [5]) (by kernel_rfl) (by simp) ?_
                refine AllReadyIn.cons rfl (fun K hK => ?_) AllReadyIn.nil
                refine stepIn_append _ rfl _ _ 22 rfl w.heap.size 5 i5 (.int .u8 0) 1 1 Tryz.underlying22 hi5 h50 h51 h52 rfl (by decide) _ _ _ rfl (hrow8.alloc _) ⟨w8.heap.size, 0, none⟩ 1 1 [.int .u8 c] rfl rfl (cell_one_new _ _ _) (by simp [Value.oneCell']) (by unfold maxLen; omega) (by omega) (by simp; omega) ?_
                intro v9 w9 hown9 hgrow9
                obtain ⟨g9, cap9, rfl⟩ := ownsRow_succ hown9
                obtain ⟨hv9, hv10, hr10, hk10, hb10⟩ := hv8.appended (by decide) hrow8 hs8 hwo hown9 hgrow9
                have hc9 := hv9.cell
                have hf9 := hv9.frozen
                have hbx9 : Box2 w9 Bh (k : Int) 5 := kept_app hbx8 (by decide) hrow8 hgrow9
                have hsg9 := kept_app hsg8 (by decide) hrow8 hgrow9
                have hbx10 := hbx9.other ⟨Bo, 0, none⟩ (.slice (some ⟨g9, 0, none⟩) (o.length + 1) cap9) hne'
                have hsg10 := (Below.heap_setCell w9 ⟨Bo, 0, none⟩ (.slice (some ⟨g9, 0, none⟩) (o.length + 1) cap9) Bs hso).trans hsg9
                refine hK _ _ ?_
                clear hK K
                refine wpAnyIn_ready (rs := [6]) (by kernel_rfl) (by simp) ?_
                refine AllReadyIn.cons rfl (fun K hK => ?_) AllReadyIn.nil
                go_simp
                refine hK _ _ ?_
                clear hK K
                refine wpAnyIn_done (by kernel_rfl) ?_ _
                gi_wp2_with (refine wpListIn_store2 rfl _ _ rfl Bh (k : Int) 5 0 0 rfl rfl hbx10 ?_; intro w11 hbx11 hg11)
                exact ⟨((((((keepsOthers_of_below hb5).trans (keepsOthers_box2 (hbx.below hb5) hg6)).trans (keepsOthers_of_below hb7)).trans (keepsOthers_of_below hb8)).trans hk10).trans (keepsOthers_box2 hbx10 hg11)).from _, ((((((KeepC.of_below hb5).trans (KeepC.grown2 hg6)).trans (KeepC.of_below hb7)).trans (KeepC.of_below hb8)).trans (KeepC.appended hrow8 hgrow9)).trans (KeepC.grown2 hg11)), by rw [hqs.out, HE.out]; simp, ⟨_, hv10.kept hg11 (by simp; omega), by rw [hqs.out, HE.out, List.length_append, List.map_append]; exact hr10.kept hg11 (.inr (hbx10.not_row hr10).symm), trivial⟩, by rw [hqs.out, HE.out]; exact hbx11, (hg11.block _ (blk_lt hsg10) (by simp; omega)).trans hsg10, ((((hB.trans (hb5.mono hB.size)).trans (below_box2 (Nat.le_trans hB.size hb5.size) hwh hg6)).trans (hb7.mono hs6)).trans (hb8.mono hs7)).trans (hb10.trans (below_box2 (Nat.le_trans hs8 hb10.size) hwh hg11))⟩
              exact AllReadyIn.nil
            exact AllReadyIn.nil
          refine AllReadyIn.cons rfl (fun K hK => ?_) ?_
          · go_simp
            refine hK _ _ ?_
            clear hK K
            refine wpAnyIn_ready (rs := [0, 4]) (by kernel_rfl) (by simp) ?_
            refine AllReadyIn.cons rfl (fun K hK => ?_) ?_
            · go_simp
              refine hK _ _ ?_
              clear hK K
              refine wpAnyIn_ready (rs := [4]) (by kernel_rfl) (by simp) ?_
              refine AllReadyIn.cons rfl (fun K hK => ?_) ?_
              · go_simp
                refine hK _ _ ?_
                clear hK K
                refine wpAnyIn_ready (rs := [5]) (by kernel_rfl) (by simp) ?_
                refine AllReadyIn.cons rfl (fun K hK => ?_) AllReadyIn.nil
                refine stepIn_append _ rfl _ _ 22 rfl w.heap.size 5 i5 (.int .u8 0) 1 1 Tryz.underlying22 hi5 h50 h51 h52 rfl (by decide) _ _ _ rfl (hrow8.alloc _) ⟨w8.heap.size, 0, none⟩ 1 1 [.int .u8 c] rfl rfl (cell_one_new _ _ _) (by simp [Value.oneCell']) (by unfold maxLen; omega) (by omega) (by simp; omega) ?_
                intro v9 w9 hown9 hgrow9
                obtain ⟨g9, cap9, rfl⟩ := ownsRow_succ hown9
                obtain ⟨hv9, hv10, hr10, hk10, hb10⟩ := hv8.appended (by decide) hrow8 hs8 hwo hown9 hgrow9
                have hc9 := hv9.cell
                have hf9 := hv9.frozen
                have hbx9 : Box2 w9 Bh (k : Int) 5 := kept_app hbx8 (by decide) hrow8 hgrow9
                have hsg9 := kept_app hsg8 (by decide) hrow8 hgrow9
                have hbx10 := hbx9.other ⟨Bo, 0, none⟩ (.slice (some ⟨g9, 0, none⟩) (o.length + 1) cap9) hne'
                have hsg10 := (Below.heap_setCell w9 ⟨Bo, 0, none⟩ (.slice (some ⟨g9, 0, none⟩) (o.length + 1) cap9) Bs hso).trans hsg9
                refine hK _ _ ?_
                clear hK K
                refine wpAnyIn_ready (rs := [6]) (by kernel_rfl) (by simp) ?_
                refine AllReadyIn.cons rfl (fun K hK => ?_) AllReadyIn.nil
                go_simp
                refine hK _ _ ?_
                clear hK K
                refine wpAnyIn_done (by kernel_rfl) ?_ _
                gi_wp2_with (refine wpListIn_store2 rfl _ _ rfl Bh (k : Int) 5 0 0 rfl rfl hbx10 ?_; intro w11 hbx11 hg11)
                exact ⟨((((((keepsOthers_of_below hb5).trans (keepsOthers_box2 (hbx.below hb5) hg6)).trans (keepsOthers_of_below hb7)).trans (keepsOthers_of_below hb8)).trans hk10).trans (keepsOthers_box2 hbx10 hg11)).from _, ((((((KeepC.of_below hb5).trans (KeepC.grown2 hg6)).trans (KeepC.of_below hb7)).trans (KeepC.of_below hb8)).trans (KeepC.appended hrow8 hgrow9)).trans (KeepC.grown2 hg11)), by rw [hqs.out, HE.out]; simp, ⟨_, hv10.kept hg11 (by simp; omega), by rw [hqs.out, HE.out, List.length_append, List.map_append]; exact hr10.kept hg11 (.inr (hbx10.not_row hr10).symm), trivial⟩, by rw [hqs.out, HE.out]; exact hbx11, (hg11.block _ (blk_lt hsg10) (by simp; omega)).trans hsg10, ((((hB.trans (hb5.mono hB.size)).trans (below_box2 (Nat.le_trans hB.size hb5.size) hwh hg6)).trans (hb7.mono hs6)).trans (hb8.mono hs7)).trans (hb10.trans (below_box2 (Nat.le_trans hs8 hb10.size) hwh hg11))⟩
              exact AllReadyIn.nil
            refine AllReadyIn.cons rfl (fun K hK => ?_) ?_
            · go_simp
              refine hK _ _ ?_
              clear hK K
              refine wpAnyIn_ready (rs := [0]) (by kernel_rfl) (by simp) ?_
              refine AllReadyIn.cons rfl (fun K hK => ?_) ?_
              · go_simp
                refine hK _ _ ?_
                clear hK K
                refine wpAnyIn_ready (rs := [5]) (by kernel_rfl) (by simp) ?_
                refine AllReadyIn.cons rfl (fun K hK => ?_) AllReadyIn.nil
                refine stepIn_append _ rfl _ _ 22 rfl w.heap.size 5 i5 (.int .u8 0) 1 1 Tryz.underlying22 hi5 h50 h51 h52 rfl (by decide) _ _ _ rfl (hrow8.alloc _) ⟨w8.heap.size, 0, none⟩ 1 1 [.int .u8 c] rfl rfl (cell_one_new _ _ _) (by simp [Value.oneCell']) (by unfold maxLen; omega) (by omega) (by simp; omega) ?_
                intro v9 w9 hown9 hgrow9
                obtain ⟨g9, cap9, rfl⟩ := ownsRow_succ hown9
                obtain ⟨hv9, hv10, hr10, hk10, hb10⟩ := hv8.appended (by decide) hrow8 hs8 hwo hown9 hgrow9
                have hc9 := hv9.cell
                have hf9 := hv9.frozen
                have hbx9 : Box2 w9 Bh (k : Int) 5 := kept_app hbx8 (by decide) hrow8 hgrow9
                have hsg9 := kept_app hsg8 (by decide) hrow8 hgrow9
                have hbx10 := hbx9.other ⟨Bo, 0, none⟩ (.slice (some ⟨g9, 0, none⟩) (o.length + 1) cap9) hne'
                have hsg10 := (Below.heap_setCell w9 ⟨Bo, 0, none⟩ (.slice (some ⟨g9, 0, none⟩) (o.length + 1) cap9) Bs hso).trans hsg9
                refine hK _ _ ?_
                clear hK K
                refine wpAnyIn_ready (rs := [6]) (by kernel_rfl) (by simp) ?_
                refine AllReadyIn.cons rfl (fun K hK => ?_) AllReadyIn.nil
                go_simp
                refine hK _ _ ?_
                clear hK K
                refine wpAnyIn_done (by kernel_rfl) ?_ _
                gi_wp2_with (refine wpListIn_store2 rfl _ _ rfl Bh (k : Int) 5 0 0 rfl rfl hbx10 ?_; intro w11 hbx11 hg11)
                exact ⟨((((((keepsOthers_of_below hb5).trans (keepsOthers_box2 (hbx.below hb5) hg6)).trans (keepsOthers_of_below hb7)).trans (keepsOthers_of_below hb8)).trans hk10).trans (keepsOthers_box2 hbx10 hg11)).from _, ((((((KeepC.of_below hb5).trans (KeepC.grown2 hg6)).trans (KeepC.of_below hb7)).trans (KeepC.of_below hb8)).trans (KeepC.appended hrow8 hgrow9)).trans (KeepC.grown2 hg11)), by rw [hqs.out, HE.out]; simp, ⟨_, hv10.kept hg11 (by simp; omega), by rw [hqs.out, HE.out, List.length_append, List.map_append]; exact hr10.kept hg11 (.inr (hbx10.not_row hr10).symm), trivial⟩, by rw [hqs.out, HE.out]; exact hbx11, (hg11.block _ (blk_lt hsg10) (by simp; omega)).trans hsg10, ((((hB.trans (hb5.mono hB.size)).trans (below_box2 (Nat.le_trans hB.size hb5.size) hwh hg6)).trans (hb7.mono hs6)).trans (hb8.mono hs7)).trans (hb10.trans (below_box2 (Nat.le_trans hs8 hb10.size) hwh hg11))⟩
              exact AllReadyIn.nil
            exact AllReadyIn.nil
          exact AllReadyIn.nil
        exact AllReadyIn.nil
      exact AllReadyIn.nil
    · by_cases hC : r + 1 = 7
      · have hr6 : r = 6 := by omega
        subst hr6
        have HRR : Hid ((6 : Int) + 1 = 7) := rfl
        have HD := D7.out (by have := HR.out; omega)
        obtain ⟨P, hP⟩ : ∃ P, M - 96 + 24 = P := ⟨_, rfl⟩
        rw [hP] at HD
        have HP : Hid (M - 96 + 24 = P) := hP
        have p0 : 0 ≤ P := HD.1
        have HD1 : Hid (P < 39 → unp (L ++ [x]) = (o ++ [WS.getD P.toNat 0], [])) := HD.2.1
        have HD2 : Hid (39 ≤ P → ∀ t, (unp (L ++ [x] ++ t)).1 = o) := HD.2.2
        clear HD hP hA hC
        by_cases h39 : 39 ≤ P
        · gi_wp2_with (first | (refine wpListIn_load2 rfl _ rfl Bh N 6 rfl hbx ?_) | (refine wpListIn_load2 rfl _ rfl Bh M 7 rfl hbx6 ?_) | ((with_reducible refine And.intro ?_ ?_); exact trivial; gi_at_call 98; refine (CallsIn.inRound l (callsIn_wide.2 (with_M N 6 x _ M 7 HM.out HRR.out n0 (by omega) hx (by omega) (by omega)))).mono ?_; rintro e w5 ⟨rfl, hb5⟩; have hbx5 := hbx.below hb5; have hv5 := boxed_below hv hb5; have hrow5 := own_below' hrow hb5; have hsg5 := (hb5.block _ (blk_lt hsg)).trans hsg) | (refine wpListIn_store2 rfl _ _ rfl Bh N 6 M 7 rfl rfl hbx5 ?_; intro w6 hbx6 hg6; have hv6 := hv5.kept hg6 (by simp; omega); have hrow6 := hrow5.kept hg6 (.inr (hbx5.not_row hrow5).symm); have hsg6 := (hg6.block _ (blk_lt hsg5) (by simp; omega)).trans hsg5; have hs6 : w.heap.size ≤ w6.heap.size := Nat.le_trans (Nat.le_trans hB.size hb5.size) hg6.size) | ((with_reducible refine And.intro ?_ ?_); exact trivial; gi_at_call 99; refine (CallsIn.inRound l (callsIn_wide.2 (place_P M 7 _ P true HP.out rfl m0 (by omega) (by omega) (by omega) (.inl (by decide))))).mono ?_; rintro e w7 ⟨rfl, hb7⟩; have hbx7 := hbx6.below hb7; have hv7 := boxed_below hv6 hb7; have hrow7 := own_below' hrow6 hb7; have hsg7 := (hb7.block _ (blk_lt hsg6)).trans hsg6; have hs7 : w.heap.size ≤ w7.heap.size := Nat.le_trans hs6 hb7.size; have hvc := hv7.cell))
          have hnow : (unp (L ++ [x])).1 = o := by have := HD2.out h39 []; rwa [List.append_nil] at this
          refine ⟨(((keepsOthers_of_below hb5).trans (keepsOthers_box2 (hbx.below hb5) hg6)).trans (keepsOthers_of_below hb7)).from _, ⟨rfl, fun t => ?_⟩, ⟨_, hv7, ?_, trivial⟩, ((hB.trans (hb5.mono hB.size)).trans (below_box2 (Nat.le_trans hB.size hb5.size) hwh hg6)).trans (hb7.mono hs6)⟩
          · rw [hqs.out, hnow]; exact HD2.out h39 t
          · rw [hqs.out, hnow]; exact hrow7
        · have HE : Hid (unp (L ++ [x]) = (o ++ [WS.getD P.toNat 0], [])) := HD1.out (by omega)
          obtain ⟨k, rfl⟩ : ∃ k : Nat, P = k := ⟨P.toNat, by omega⟩
          have hk : k < 39 := by omega
          have hk' : (k : Int) < 39 := by omega
          obtain ⟨c, hc⟩ : ∃ c, WS.getD k 0 = c := ⟨_, rfl⟩
          rw [Int.toNat_natCast, hc] at HE
          have HC : Hid (WS.getD k 0 = c) := hc
          clear HD1 HD2 hc h39
          gi_wp2_with (first | (refine wpListIn_load2 rfl _ rfl Bh N 6 rfl hbx ?_) | (refine wpListIn_load2 rfl _ rfl Bh M 7 rfl hbx6 ?_) | ((with_reducible refine And.intro ?_ ?_); exact trivial; gi_at_call 98; refine (CallsIn.inRound l (callsIn_wide.2 (with_M N 6 x _ M 7 HM.out HRR.out n0 (by omega) hx (by omega) (by omega)))).mono ?_; rintro e w5 ⟨rfl, hb5⟩; have hbx5 := hbx.below hb5; have hv5 := boxed_below hv hb5; have hrow5 := own_below' hrow hb5; have hsg5 := (hb5.block _ (blk_lt hsg)).trans hsg) | (refine wpListIn_store2 rfl _ _ rfl Bh N 6 M 7 rfl rfl hbx5 ?_; intro w6 hbx6 hg6; have hv6 := hv5.kept hg6 (by simp; omega); have hrow6 := hrow5.kept hg6 (.inr (hbx5.not_row hrow5).symm); have hsg6 := (hg6.block _ (blk_lt hsg5) (by simp; omega)).trans hsg5; have hs6 : w.heap.size ≤ w6.heap.size := Nat.le_trans (Nat.le_trans hB.size hb5.size) hg6.size) | ((with_reducible refine And.intro ?_ ?_); exact trivial; gi_at_call 99; refine (CallsIn.inRound l (callsIn_wide.2 (place_P M 7 _ (k : Int) true HP.out rfl m0 (by omega) (by omega) (by omega) (.inl (by decide))))).mono ?_; rintro e w7 ⟨rfl, hb7⟩; have hbx7 := hbx6.below hb7; have hv7 := boxed_below hv6 hb7; have hrow7 := own_below' hrow6 hb7; have hsg7 := (hb7.block _ (blk_lt hsg6)).trans hsg6; have hs7 : w.heap.size ≤ w7.heap.size := Nat.le_trans hs6 hb7.size; have hvc := hv7.cell))
          have hmx : Tryz.prog.follows .mixedOrders = true := by kernel_rfl
          refine wpIn_region_any hmx ?_
          change wpAnyIn _ _ _ _ _ _ _ _ _ (World.drew _)
          obtain ⟨w8, hw8⟩ : ∃ w8, w7.drew = w8 := ⟨_, rfl⟩
          have hb8 : Below w7.heap.size w7 w8 := by rw [← hw8]; exact (Below.refl _ _).drew
          rw [hw8]
          clear hw8
          have hv8 := boxed_below hv7 hb8
          have hrow8 := own_below' hrow7 hb8
          have hbx8 := hbx7.below hb8
          have hsg8 := (hb8.block _ (blk_lt hsg7)).trans hsg7
          have hs8 : w.heap.size ≤ w8.heap.size := Nat.le_trans hs7 hb8.size
          have hvc8 := hv8.cell
          have hvc9 := (hv8.alloc (.cells #[.int .u8 c] 5)).cell
          have hsc : w8.cell? ⟨Bs, k, none⟩ = some (.int .u8 c) := by rw [signs_cell _ _ _ hsg8 k hk, HC.out]
          clear hvc
          refine wpAnyIn_ready (rs := [0, 1]) (by kernel_rfl) (by simp) ?_
          refine AllReadyIn.cons rfl (fun K hK => ?_) ?_
          · go_simp
            refine hK _ _ ?_
            clear hK K
            refine wpAnyIn_ready (rs := [1]) (by kernel_rfl) (by simp) ?_
            refine AllReadyIn.cons rfl (fun K hK => ?_) ?_
            · go_simp
              refine hK _ _ ?_
              clear hK K
              refine wpAnyIn_ready (rs := [2]) (by kernel_rfl) (by simp) ?_
              refine AllReadyIn.cons rfl (fun K hK => ?_) ?_
              · go_simp
                refine hK _ _ ?_
                clear hK K
                refine wpAnyIn_ready (rs := [3]) (by kernel_rfl) (by simp) ?_
                refine AllReadyIn.cons rfl (fun K hK => ?_) ?_
                · go_simp
                  refine hK _ _ ?_
                  clear hK K
                  refine wpAnyIn_ready (rs := [4]) (by kernel_rfl) (by simp) ?_
                  refine AllReadyIn.cons rfl (fun K hK => ?_) ?_
                  · go_simp
                    refine hK _ _ ?_
                    clear hK K
                    refine wpAnyIn_ready (rs := [5]) (by kernel_rfl) (by simp) ?_
                    refine AllReadyIn.cons rfl (fun K hK => ?_) AllReadyIn.nil
                    refine stepIn_append _ rfl _ _ 22 rfl w.heap.size 5 i5 (.int .u8 0) 1 1 Tryz.underlying22 hi5 h50 h51 h52 rfl (by decide) _ _ _ rfl (hrow8.alloc _) ⟨w8.heap.size, 0, none⟩ 1 1 [.int .u8 c] rfl rfl (cell_one_new _ _ _) (by simp [Value.oneCell']) (by unfold maxLen; omega) (by omega) (by simp; omega) ?_
                    intro v9 w9 hown9 hgrow9
                    obtain ⟨g9, cap9, rfl⟩ := ownsRow_succ hown9
                    obtain ⟨hv9, hv10, hr10, hk10, hb10⟩ := hv8.appended (by decide) hrow8 hs8 hwo hown9 hgrow9
                    have hc9 := hv9.cell
                    have hf9 := hv9.frozen
                    have hbx9 : Box2 w9 Bh M 7 := kept_app hbx8 (by decide) hrow8 hgrow9
                    have hsg9 := kept_app hsg8 (by decide) hrow8 hgrow9
                    have hbx10 := hbx9.other ⟨Bo, 0, none⟩ (.slice (some ⟨g9, 0, none⟩) (o.length + 1) cap9) hne'
                    have hsg10 := (Below.heap_setCell w9 ⟨Bo, 0, none⟩ (.slice (some ⟨g9, 0, none⟩) (o.length + 1) cap9) Bs hso).trans hsg9
                    refine hK _ _ ?_
                    clear hK K
                    refine wpAnyIn_ready (rs := [6]) (by kernel_rfl) (by simp) ?_
                    refine AllReadyIn.cons rfl (fun K hK => ?_) AllReadyIn.nil
                    go_simp
                    refine hK _ _ ?_
                    clear hK K
                    refine wpAnyIn_done (by kernel_rfl) ?_ _
                    gi_wp2_with (refine wpListIn_store2 rfl _ _ rfl Bh M 7 0 0 rfl rfl hbx10 ?_; intro w11 hbx11 hg11)
                    exact ⟨((((((keepsOthers_of_below hb5).trans (keepsOthers_box2 (hbx.below hb5) hg6)).trans (keepsOthers_of_below hb7)).trans (keepsOthers_of_below hb8)).trans hk10).trans (keepsOthers_box2 hbx10 hg11)).from _, ((((((KeepC.of_below hb5).trans (KeepC.grown2 hg6)).trans (KeepC.of_below hb7)).trans (KeepC.of_below hb8)).trans (KeepC.appended hrow8 hgrow9)).trans (KeepC.grown2 hg11)), by rw [hqs.out, HE.out]; simp, ⟨_, hv10.kept hg11 (by simp; omega), by rw [hqs.out, HE.out, List.length_append, List.map_append]; exact hr10.kept hg11 (.inr (hbx10.not_row hr10).symm), trivial⟩, by rw [hqs.out, HE.out]; exact hbx11, (hg11.block _ (blk_lt hsg10) (by simp; omega)).trans hsg10, ((((hB.trans (hb5.mono hB.size)).trans (below_box2 (Nat.le_trans hB.size hb5.size) hwh hg6)).trans (hb7.mono hs6)).trans (hb8.mono hs7)).trans (hb10.trans (below_box2 (Nat.le_trans hs8 hb10.size) hwh hg11))⟩
                  exact AllReadyIn.nil
                exact AllReadyIn.nil
              exact AllReadyIn.nil
            exact AllReadyIn.nil
          refine AllReadyIn.cons rfl (fun K hK => ?_) ?_
          · go_simp
            refine hK _ _ ?_
            clear hK K
            refine wpAnyIn_ready (rs := [0, 2]) (by kernel_rfl) (by simp) ?_
            refine AllReadyIn.cons rfl (fun K hK => ?_) ?_
            · go_simp
              refine hK _ _ ?_
              clear hK K
              refine wpAnyIn_ready (rs := [2]) (by kernel_rfl) (by simp) ?_
              refine AllReadyIn.cons rfl (fun K hK => ?_) ?_
              · go_simp
                refine hK _ _ ?_
                clear hK K
                refine wpAnyIn_ready (rs := [3]) (by kernel_rfl) (by simp) ?_
                refine AllReadyIn.cons rfl (fun K hK => ?_) ?_
                · go_simp
                  refine hK _ _ ?_
                  clear hK K
                  refine wpAnyIn_ready (rs := [4]) (by kernel_rfl) (by simp) ?_
                  refine AllReadyIn.cons rfl (fun K hK => ?_) ?_
                  · go_simp
                    refine hK _ _ ?_
                    clear hK K
                    refine wpAnyIn_ready (rs := [5]) (by kernel_rfl) (by simp) ?_
                    refine AllReadyIn.cons rfl (fun K hK => ?_) AllReadyIn.nil
                    refine stepIn_append _ rfl _ _ 22 rfl w.heap.size 5 i5 (.int .u8 0) 1 1 Tryz.underlying22 hi5 h50 h51 h52 rfl (by decide) _ _ _ rfl (hrow8.alloc _) ⟨w8.heap.size, 0, none⟩ 1 1 [.int .u8 c] rfl rfl (cell_one_new _ _ _) (by simp [Value.oneCell']) (by unfold maxLen; omega) (by omega) (by simp; omega) ?_
                    intro v9 w9 hown9 hgrow9
                    obtain ⟨g9, cap9, rfl⟩ := ownsRow_succ hown9
                    obtain ⟨hv9, hv10, hr10, hk10, hb10⟩ := hv8.appended (by decide) hrow8 hs8 hwo hown9 hgrow9
                    have hc9 := hv9.cell
                    have hf9 := hv9.frozen
                    have hbx9 : Box2 w9 Bh M 7 := kept_app hbx8 (by decide) hrow8 hgrow9
                    have hsg9 := kept_app hsg8 (by decide) hrow8 hgrow9
                    have hbx10 := hbx9.other ⟨Bo, 0, none⟩ (.slice (some ⟨g9, 0, none⟩) (o.length + 1) cap9) hne'
                    have hsg10 := (Below.heap_setCell w9 ⟨Bo, 0, none⟩ (.slice (some ⟨g9, 0, none⟩) (o.length + 1) cap9) Bs hso).trans hsg9
                    refine hK _ _ ?_
                    clear hK K
                    refine wpAnyIn_ready (rs := [6]) (by kernel_rfl) (by simp) ?_
                    refine AllReadyIn.cons rfl (fun K hK => ?_) AllReadyIn.nil
                    go_simp
                    refine hK _ _ ?_
                    clear hK K
                    refine wpAnyIn_done (by kernel_rfl) ?_ _
                    gi_wp2_with (refine wpListIn_store2 rfl _ _ rfl Bh M 7 0 0 rfl rfl hbx10 ?_; intro w11 hbx11 hg11)
                    exact ⟨((((((keepsOthers_of_below hb5).trans (keepsOthers_box2 (hbx.below hb5) hg6)).trans (keepsOthers_of_below hb7)).trans (keepsOthers_of_below hb8)).trans hk10).trans (keepsOthers_box2 hbx10 hg11)).from _, ((((((KeepC.of_below hb5).trans (KeepC.grown2 hg6)).trans (KeepC.of_below hb7)).trans (KeepC.of_below hb8)).trans (KeepC.appended hrow8 hgrow9)).trans (KeepC.grown2 hg11)), by rw [hqs.out, HE.out]; simp, ⟨_, hv10.kept hg11 (by simp; omega), by rw [hqs.out, HE.out, List.length_append, List.map_append]; exact hr10.kept hg11 (.inr (hbx10.not_row hr10).symm), trivial⟩, by rw [hqs.out, HE.out]; exact hbx11, (hg11.block _ (blk_lt hsg10) (by simp; omega)).trans hsg10, ((((hB.trans (hb5.mono hB.size)).trans (below_box2 (Nat.le_trans hB.size hb5.size) hwh hg6)).trans (hb7.mono hs6)).trans (hb8.mono hs7)).trans (hb10.trans (below_box2 (Nat.le_trans hs8 hb10.size) hwh hg11))⟩
                  exact AllReadyIn.nil
                exact AllReadyIn.nil
              exact AllReadyIn.nil
            refine AllReadyIn.cons rfl (fun K hK => ?_) ?_
            · go_simp
              refine hK _ _ ?_
              clear hK K
              refine wpAnyIn_ready (rs := [0, 3]) (by kernel_rfl) (by simp) ?_
              refine AllReadyIn.cons rfl (fun K hK => ?_) ?_
              · go_simp
                refine hK _ _ ?_
                clear hK K
                refine wpAnyIn_ready (rs := [3]) (by kernel_rfl) (by simp) ?_
                refine AllReadyIn.cons rfl (fun K hK => ?_) ?_
                · go_simp
                  refine hK _ _ ?_
                  clear hK K
                  refine wpAnyIn_ready (rs := [4]) (by kernel_rfl) (by simp) ?_
                  refine AllReadyIn.cons rfl (fun K hK => ?_) ?_
                  · go_simp
                    refine hK _ _ ?_
                    clear hK K
                    refine wpAnyIn_ready (rs := [5]) (by kernel_rfl) (by simp) ?_
                    refine AllReadyIn.cons rfl (fun K hK => ?_) AllReadyIn.nil
                    refine stepIn_append _ rfl _ _ 22 rfl w.heap.size 5 i5 (.int .u8 0) 1 1 Tryz.underlying22 hi5 h50 h51 h52 rfl (by decide) _ _ _ rfl (hrow8.alloc _) ⟨w8.heap.size, 0, none⟩ 1 1 [.int .u8 c] rfl rfl (cell_one_new _ _ _) (by simp [Value.oneCell']) (by unfold maxLen; omega) (by omega) (by simp; omega) ?_
                    intro v9 w9 hown9 hgrow9
                    obtain ⟨g9, cap9, rfl⟩ := ownsRow_succ hown9
                    obtain ⟨hv9, hv10, hr10, hk10, hb10⟩ := hv8.appended (by decide) hrow8 hs8 hwo hown9 hgrow9
                    have hc9 := hv9.cell
                    have hf9 := hv9.frozen
                    have hbx9 : Box2 w9 Bh M 7 := kept_app hbx8 (by decide) hrow8 hgrow9
                    have hsg9 := kept_app hsg8 (by decide) hrow8 hgrow9
                    have hbx10 := hbx9.other ⟨Bo, 0, none⟩ (.slice (some ⟨g9, 0, none⟩) (o.length + 1) cap9) hne'
                    have hsg10 := (Below.heap_setCell w9 ⟨Bo, 0, none⟩ (.slice (some ⟨g9, 0, none⟩) (o.length + 1) cap9) Bs hso).trans hsg9
                    refine hK _ _ ?_
                    clear hK K
                    refine wpAnyIn_ready (rs := [6]) (by kernel_rfl) (by simp) ?_
                    refine AllReadyIn.cons rfl (fun K hK => ?_) AllReadyIn.nil
                    go_simp
                    refine hK _ _ ?_
                    clear hK K
                    refine wpAnyIn_done (by kernel_rfl) ?_ _
                    gi_wp2_with (refine wpListIn_store2 rfl _ _ rfl Bh M 7 0 0 rfl rfl hbx10 ?_; intro w11 hbx11 hg11)
                    exact ⟨((((((keepsOthers_of_below hb5).trans (keepsOthers_box2 (hbx.below hb5) hg6)).trans (keepsOthers_of_below hb7)).trans (keepsOthers_of_below hb8)).trans hk10).trans (keepsOthers_box2 hbx10 hg11)).from _, ((((((KeepC.of_below hb5).trans (KeepC.grown2 hg6)).trans (KeepC.of_below hb7)).trans (KeepC.of_below hb8)).trans (KeepC.appended hrow8 hgrow9)).trans (KeepC.grown2 hg11)), by rw [hqs.out, HE.out]; simp, ⟨_, hv10.kept hg11 (by simp; omega), by rw [hqs.out, HE.out, List.length_append, List.map_append]; exact hr10.kept hg11 (.inr (hbx10.not_row hr10).symm), trivial⟩, by rw [hqs.out, HE.out]; exact hbx11, (hg11.block _ (blk_lt hsg10) (by simp; omega)).trans hsg10, ((((hB.trans (hb5.mono hB.size)).trans (below_box2 (Nat.le_trans hB.size hb5.size) hwh hg6)).trans (hb7.mono hs6)).trans (hb8.mono hs7)).trans (hb10.trans (below_box2 (Nat.le_trans hs8 hb10.size) hwh hg11))⟩
                  exact AllReadyIn.nil
                exact AllReadyIn.nil
              refine AllReadyIn.cons rfl (fun K hK => ?_) ?_
              · go_simp
                refine hK _ _ ?_
                clear hK K
                refine wpAnyIn_ready (rs := [0, 4]) (by kernel_rfl) (by simp) ?_
                refine AllReadyIn.cons rfl (fun K hK => ?_) ?_
                · go_simp
                  refine hK _ _ ?_
                  clear hK K
                  refine wpAnyIn_ready (rs := [4]) (by kernel_rfl) (by simp) ?_
                  refine AllReadyIn.cons rfl (fun K hK => ?_) ?_
                  · go_simp
                    refine hK _ _ ?_
                    clear hK K
                    refine wpAnyIn_ready (rs := [5]) (by kernel_rfl) (by simp) ?_
                    refine AllReadyIn.cons rfl (fun K hK => ?_) AllReadyIn.nil
                    refine stepIn_append _ rfl _ _ 22 rfl w.heap.size 5 i5 (.int .u8 0) 1 1 Tryz.underlying22 hi5 h50 h51 h52 rfl (by decide) _ _ _ rfl (hrow8.alloc _) ⟨w8.heap.size, 0, none⟩ 1 1 [.int .u8 c] rfl rfl (cell_one_new _ _ _) (by simp [Value.oneCell']) (by unfold maxLen; omega) (by omega) (by simp; omega) ?_
                    intro v9 w9 hown9 hgrow9
                    obtain ⟨g9, cap9, rfl⟩ := ownsRow_succ hown9
                    obtain ⟨hv9, hv10, hr10, hk10, hb10⟩ := hv8.appended (by decide) hrow8 hs8 hwo hown9 hgrow9
                    have hc9 := hv9.cell
                    have hf9 := hv9.frozen
                    have hbx9 : Box2 w9 Bh M 7 := kept_app hbx8 (by decide) hrow8 hgrow9
                    have hsg9 := kept_app hsg8 (by decide) hrow8 hgrow9
                    have hbx10 := hbx9.other ⟨Bo, 0, none⟩ (.slice (some ⟨g9, 0, none⟩) (o.length + 1) cap9) hne'
                    have hsg10 := (Below.heap_setCell w9 ⟨Bo, 0, none⟩ (.slice (some ⟨g9, 0, none⟩) (o.length + 1) cap9) Bs hso).trans hsg9
                    refine hK _ _ ?_
                    clear hK K
                    refine wpAnyIn_ready (rs := [6]) (by kernel_rfl) (by simp) ?_
                    refine AllReadyIn.cons rfl (fun K hK => ?_) AllReadyIn.nil
                    go_simp
                    refine hK _ _ ?_
                    clear hK K
                    refine wpAnyIn_done (by kernel_rfl) ?_ _
                    gi_wp2_with (refine wpListIn_store2 rfl _ _ rfl Bh M 7 0 0 rfl rfl hbx10 ?_; intro w11 hbx11 hg11)
                    exact ⟨((((((keepsOthers_of_below hb5).trans (keepsOthers_box2 (hbx.below hb5) hg6)).trans (keepsOthers_of_below hb7)).trans (keepsOthers_of_below hb8)).trans hk10).trans (keepsOthers_box2 hbx10 hg11)).from _, ((((((KeepC.of_below hb5).trans (KeepC.grown2 hg6)).trans (KeepC.of_below hb7)).trans (KeepC.of_below hb8)).trans (KeepC.appended hrow8 hgrow9)).trans (KeepC.grown2 hg11)), by rw [hqs.out, HE.out]; simp, ⟨_, hv10.kept hg11 (by simp; omega), by rw [hqs.out, HE.out, List.length_append, List.map_append]; exact hr10.kept hg11 (.inr (hbx10.not_row hr10).symm), trivial⟩, by rw [hqs.out, HE.out]; exact hbx11, (hg11.block _ (blk_lt hsg10) (by simp; omega)).trans hsg10, ((((hB.trans (hb5.mono hB.size)).trans (below_box2 (Nat.le_trans hB.size hb5.size) hwh hg6)).trans (hb7.mono hs6)).trans (hb8.mono hs7)).trans (hb10.trans (below_box2 (Nat.le_trans hs8 hb10.size) hwh hg11))⟩
                  exact AllReadyIn.nil
                refine AllReadyIn.cons rfl (fun K hK => ?_) ?_
                · go_simp
                  refine hK _ _ ?_
                  clear hK K
                  refine wpAnyIn_ready (rs := [0]) (by kernel_rfl) (by simp) ?_
                  refine AllReadyIn.cons rfl (fun K hK => ?_) ?_
                  · go_simp
                    refine hK _ _ ?_
                    clear hK K
                    refine wpAnyIn_ready (rs := [5]) (by kernel_rfl) (by simp) ?_
                    refine AllReadyIn.cons rfl (fun K hK => ?_) AllReadyIn.nil
                    refine stepIn_append _ rfl _ _ 22 rfl w.heap.size 5 i5 (.int .u8 0) 1 1 Tryz.underlying22 hi5 h50 h51 h52 rfl (by decide) _ _ _ rfl (hrow8.alloc _) ⟨w8.heap.size, 0, none⟩ 1 1 [.int .u8 c] rfl rfl (cell_one_new _ _ _) (by simp [Value.oneCell']) (by unfold maxLen; omega) (by omega) (by simp; omega) ?_
                    intro v9 w9 hown9 hgrow9
                    obtain ⟨g9, cap9, rfl⟩ := ownsRow_succ hown9
                    obtain ⟨hv9, hv10, hr10, hk10, hb10⟩ := hv8.appended (by decide) hrow8 hs8 hwo hown9 hgrow9
                    have hc9 := hv9.cell
                    have hf9 := hv9.frozen
                    have hbx9 : Box2 w9 Bh M 7 := kept_app hbx8 (by decide) hrow8 hgrow9
                    have hsg9 := kept_app hsg8 (by decide) hrow8 hgrow9
                    have hbx10 := hbx9.other ⟨Bo, 0, none⟩ (.slice (some ⟨g9, 0, none⟩) (o.length + 1) cap9) hne'
                    have hsg10 := (Below.heap_setCell w9 ⟨Bo, 0, none⟩ (.slice (some ⟨g9, 0, none⟩) (o.length + 1) cap9) Bs hso).trans hsg9
                    refine hK _ _ ?_
                    clear hK K
                    refine wpAnyIn_ready (rs := [6]) (by kernel_rfl) (by simp) ?_
                    refine AllReadyIn.cons rfl (fun K hK => ?_) AllReadyIn.nil
                    go_simp
                    refine hK _ _ ?_
                    clear hK K
                    refine wpAnyIn_done (by kernel_rfl) ?_ _
                    gi_wp2_with (refine wpListIn_store2 rfl _ _ rfl Bh M 7 0 0 rfl rfl hbx10 ?_; intro w11 hbx11 hg11)
                    exact ⟨((((((keepsOthers_of_below hb5).trans (keepsOthers_box2 (hbx.below hb5) hg6)).trans (keepsOthers_of_below hb7)).trans (keepsOthers_of_below hb8)).trans hk10).trans (keepsOthers_box2 hbx10 hg11)).from _, ((((((KeepC.of_below hb5).trans (KeepC.grown2 hg6)).trans (KeepC.of_below hb7)).trans (KeepC.of_below hb8)).trans (KeepC.appended hrow8 hgrow9)).trans (KeepC.grown2 hg11)), by rw [hqs.out, HE.out]; simp, ⟨_, hv10.kept hg11 (by simp; omega), by rw [hqs.out, HE.out, List.length_append, List.map_append]; exact hr10.kept hg11 (.inr (hbx10.not_row hr10).symm), trivial⟩, by rw [hqs.out, HE.out]; exact hbx11, (hg11.block _ (blk_lt hsg10) (by simp; omega)).trans hsg10, ((((hB.trans (hb5.mono hB.size)).trans (below_box2 (Nat.le_trans hB.size hb5.size) hwh hg6)).trans (hb7.mono hs6)).trans (hb8.mono hs7)).trans (hb10.trans (below_box2 (Nat.le_trans hs8 hb10.size) hwh hg11))⟩
                  exact AllReadyIn.nil
                exact AllReadyIn.nil
              exact AllReadyIn.nil
            exact AllReadyIn.nil
          exact AllReadyIn.nil
      · obtain ⟨R, hR⟩ : ∃ R, r + 1 = R := ⟨_, rfl⟩
        have HRR : Hid (r + 1 = R) := hR
        have HE : Hid (unp (L ++ [x]) = (o, q ++ [x])) := D6.out (by have := HR.out; omega) (by intro h5; have := HR.out; omega)
        have hR5 : R = 5 → 24 ≤ M := by omega
        have hR7 : ¬ R = 7 := by omega
        have hR1 : R ≤ 6 := by omega
        have hR0 : 1 ≤ R := by omega
        clear hR hA hC
        have HR5 : Hid (R = 5 → 24 ≤ M) := hR5
        clear hR5
        gi_wp2_with (first | (refine wpListIn_load2 rfl _ rfl Bh N r rfl hbx ?_) | (refine wpListIn_load2 rfl _ rfl Bh M R rfl hbx6 ?_) | ((with_reducible refine And.intro ?_ ?_); exact trivial; gi_at_call 98; refine (CallsIn.inRound l (callsIn_wide.2 (with_M N r x _ M R HM.out HRR.out n0 (by omega) hx (by omega) (by omega)))).mono ?_; rintro e w5 ⟨rfl, hb5⟩; have hbx5 := hbx.below hb5; have hv5 := boxed_below hv hb5; have hrow5 := own_below' hrow hb5; have hsg5 := (hb5.block _ (blk_lt hsg)).trans hsg) | (refine wpListIn_store2 rfl _ _ rfl Bh N r M R rfl rfl hbx5 ?_; intro w6 hbx6 hg6; have hv6 := hv5.kept hg6 (by simp; omega); have hrow6 := hrow5.kept hg6 (.inr (hbx5.not_row hrow5).symm); have hsg6 := (hg6.block _ (blk_lt hsg5) (by simp; omega)).trans hsg5; have hs6 : w.heap.size ≤ w6.heap.size := Nat.le_trans (Nat.le_trans hB.size hb5.size) hg6.size) | ((with_reducible refine And.intro ?_ ?_); exact trivial; gi_at_call 99; refine (CallsIn.inRound l (callsIn_wide.2 (place_P M R _ (M - 96 + 24) false rfl (by simp; omega) m0 (by omega) (by omega) (by omega) (by by_cases h5 : R = 5; exact .inr (HR5.out h5); exact .inl h5)))).mono ?_; rintro e w7 ⟨rfl, hb7⟩; have hbx7 := hbx6.below hb7; have hv7 := boxed_below hv6 hb7; have hrow7 := own_below' hrow6 hb7; have hsg7 := (hb7.block _ (blk_lt hsg6)).trans hsg6; have hs7 : w.heap.size ≤ w7.heap.size := Nat.le_trans hs6 hb7.size; have hvc := hv7.cell))
        refine ⟨(((keepsOthers_of_below hb5).trans (keepsOthers_box2 (hbx.below hb5) hg6)).trans (keepsOthers_of_below hb7)).from _, ((KeepC.of_below hb5).trans (KeepC.grown2 hg6)).trans (KeepC.of_below hb7), ?_, ⟨_, hv7, ?_, trivial⟩, ?_, hsg7, ((hB.trans (hb5.mono hB.size)).trans (below_box2 (Nat.le_trans hB.size hb5.size) hwh hg6)).trans (hb7.mono hs6)⟩
        · rw [hqs.out, HE.out, HQX.out]; have := HR.out; have := HRR.out; omega
        · rw [hqs.out, HE.out]; exact hrow7
        · rw [hqs.out, HE.out, HMB.out, HQX.out, show ((q.length + 1 : Nat) : Int) = R by have := HR.out; have := HRR.out; omega]; exact hbx7
  case done =>
    rintro D ys W hD rfl ⟨h6, ⟨v, hv, hrow, _⟩, hbx, hsg, hB⟩ hK
    have hc := hv.cell
    have hcv := convert_owned (P := Tryz.prog) (src := 22) (dst := 9) Tryz.underlying22 Tryz.underlying5 Tryz.underlying9 hrow
    gi_wp2
    refine ⟨by simp, .inl ⟨_, _, rfl, run_takeDeferred hK, ?_⟩⟩
    exact ⟨_, results_tmp rfl _ _ _, rfl, hB.trans (belowK_b (w := W0) hW0s W D _ _ hD hK rfl rfl)⟩
  case stop =>
    rintro D c pre W hD ⟨rest, hrest⟩ ⟨⟨rfl, hall⟩, ⟨v, hv, hrow, _⟩, hB⟩ hK
    have hfin : (unp (qL (codesQ cs))).1 = (unp (qL pre)).1 := by
      rw [← hrest, show qL (pre ++ rest) = qL pre ++ qL rest by simp [qL]]
      exact hall _
    have HFIN : Hid ((unp (qL (codesQ cs))).1 = (unp (qL pre)).1) := hfin
    clear hfin hall hrest
    have hc := hv.cell
    have hcv := convert_owned (P := Tryz.prog) (src := 22) (dst := 9) Tryz.underlying22 Tryz.underlying5 Tryz.underlying9 hrow
    gi_wp2
    refine ⟨by simp, .inl ⟨_, _, rfl, run_takeDeferred hK, ?_⟩⟩
    exact ⟨_, results_tmp rfl _ _ _, by rw [HFIN.out]; rfl, hB.trans (belowK_b (w := W0) hW0s W D _ _ hD hK rfl rfl)⟩
end Go.Proofs.YtbhoafiolalgaaaGreat
