import Derived.Test.YtghgcobnmmommaaBH
namespace Go.Proofs.Ytghgcobnmmommaa
open Go.RowKit Go.Shelf
set_option linter.unusedVariables false
attribute [local go_sem] Oper.semAt_some

theorem implOk_yes (s : ByteArray) (w : World) (hz : s.size ≤ 16) (h : wOk (bytesL s) = true) :
    Calls Try.prog 101 #[.string s] w fun e w' => e = .returned (.bool true) ∧ Below w.heap.size w w' := by
  have := implOk s w (by unfold maxLen; omega)
  rw [h] at this
  exact this
theorem own_zeroU (w : World) (e : TypeId) : (w.alloc (.cells #[] e)).ownsRow w.heap.size e 1 (.slice (some ⟨w.heap.size, 0, none⟩) 0 0) 0 [] :=
  ⟨rfl, .inr ⟨w.heap.size, 0, #[], rfl, Nat.le_refl _, by show (w.heap.push _)[w.heap.size]? = _; simp, Nat.le_refl _, by decide, rfl, rfl⟩⟩
theorem own_form' {w : World} {base : Nat} {e : TypeId} {size : Nat} {v : Value} {n : Nat} {xs : List Value} (h : w.ownsRow base e size v n xs) : ∃ a c, v = .slice a n c := by
  rcases h.2 with ⟨rfl, rfl⟩ | ⟨g, cap, cur, rfl, _⟩
  · exact ⟨_, _, rfl⟩
  · exact ⟨_, _, rfl⟩

theorem wordFill_pf (cs : List (Int × Int)) (a : Option Addr) (n cap base : Nat) (w : World) (p f : Int) (hp : pw ((8 - sumB cs % 8) % 8) - 1 = p) (hf : (8 - sumB cs % 8) % 8 = f) (hn : cs.length = n) (hn16 : n ≤ 16) (hbd : ∀ c ∈ cs, 0 ≤ c.2 ∧ c.2 ≤ 8) (hown : w.ownsRow base 204 2 (.slice a n cap) n (cellsC cs)) :
    Calls Try.prog 161 #[.slice a n cap] w fun e w' => e = .returned (.agg #[.int .i64 p, .int .i64 f]) ∧ Below w.heap.size w w' := by
  have := wordFill_any cs a n cap base w hn hn16 hbd hown
  rw [hp, hf] at this
  exact this

theorem with_M (num bits b : Int) (w : World) (M R : Int) (hM : 2 * num + b = M) (hR : bits + 1 = R) (h0 : 0 ≤ num) (h1 : num ≤ 255) (hb : b = 0 ∨ b = 1) (b0 : 0 ≤ bits) (b1 : bits ≤ 8) :
    Calls Try.prog 163 #[.agg #[.int .i64 num, .int .i64 bits], .int .i64 b] w fun e w' => e = .returned (.agg #[.int .i64 M, .int .i64 R]) ∧ Below w.heap.size w w' := by
  have := with_any num bits b w h0 h1 hb b0 b1
  rw [hM, hR] at this
  exact this

set_option maxRecDepth 100000 in
set_option maxHeartbeats 2000000 in
theorem implPack_yes (s : ByteArray) (w : World) (hz : s.size ≤ 16) (hok : ∀ c ∈ bytesL s, 0 ≤ sgn c) (hw : wOk (bytesL s) = true) :
    Calls Try.prog 159 #[.string s] w fun e w' => e = .returned (.string (strOfNums (packL (bytesL s)))) ∧ Below w.heap.size w w' := by
  obtain ⟨ii, hi, hz0, hz1, hz2⟩ := info_parts infoC
  obtain ⟨i5, hi5, h50, h51, h52⟩ := info_parts info5'
  have HOK : Hid (∀ c ∈ bytesL s, 0 ≤ sgn c) := hok
  have HW : Hid (wOk (bytesL s) = true) := hw
  clear hok hw
  obtain ⟨f, hf⟩ : ∃ f, (8 - sumB ((bytesL s).map codeOf) % 8) % 8 = f := ⟨_, rfl⟩
  obtain ⟨p, hp⟩ : ∃ p, pw ((8 - sumB ((bytesL s).map codeOf) % 8) % 8) - 1 = p := ⟨_, rfl⟩
  have HF : Hid ((8 - sumB ((bytesL s).map codeOf) % 8) % 8 = f) := hf
  have HP : Hid (pw ((8 - sumB ((bytesL s).map codeOf) % 8) % 8) - 1 = p) := hp
  have HA : Hid (allC (bytesL s) = (bytesL s).map codeOf ++ [(p, f)]) := by show allC (bytesL s) = (bytesL s).map codeOf ++ [(p, f)]; unfold allC; rw [hf, ← hp, hf]
  clear hf hp
  refine (callsIn_wide (n := 6)).1 ?_
  refine callsIn_of_wp_marks Try.func159 rfl trivial ?_ rfl
  simp only [Try.ntmps159, List.size_toArray, List.length_cons, List.length_nil, Nat.reduceAdd, Nat.reduceSub, Array.replicate_succ, Array.replicate_zero, List.push_toArray, List.append_toArray, List.nil_append, List.cons_append]
  gi_wp2_with (first | ((with_reducible refine And.intro ?_ ?_); exact trivial; gi_at_call 101; refine (callsIn_wide.2 (implOk_yes s _ hz HW.out)).mono ?_; rintro e w1 ⟨rfl, hb1⟩) | ((with_reducible refine And.intro ?_ ?_); exact trivial; gi_at_call 160; refine (callsIn_wide.2 (wordCodes_any s _ hz HOK.out)).mono ?_; rintro e w2 ⟨v2, rfl, hown2, hb2⟩; obtain ⟨a2, c2, rfl⟩ := own_form' hown2) | ((with_reducible refine And.intro ?_ ?_); exact trivial; gi_at_call 161; refine (callsIn_wide.2 (wordFill_pf _ _ _ _ _ _ p f HP.out HF.out (by rw [List.length_map, bytesL_length]) hz (fun c hc => (codes_bd _ HOK.out c hc).2.2) hown2)).mono ?_; rintro e w3 ⟨rfl, hb3⟩; have hown3 := own_base (own_below' hown2 hb3) (b' := w.heap.size) hb1.size; have hbw3 : Below w.heap.size w w3 := (hb1.trans (hb2.mono hb1.size)).trans (hb3.mono (Nat.le_trans hb1.size hb2.size))) | ((with_reducible refine And.intro ?_ ?_); exact trivial; gi_at_call 162; refine (callsIn_wide.2 (wordBits_any _ _ _ _)).mono ?_; rintro e w' ⟨rfl, rfl⟩) | (gi_at_builtin; refine wpListIn_append_own _ rfl _ _ 201 rfl w.heap.size 204 ii (.agg #[.int .i64 0, .int .i64 0]) 2 16 Try.underlying201 hi hz0 hz1 hz2 rfl (by decide) _ _ _ rfl (hown3.alloc _) ⟨w3.heap.size, 0, none⟩ 1 1 [.int .i64 p, .int .i64 f] rfl rfl (cell_two _ _ _ _) (two_cell _ _) (by unfold maxLen; omega) (by omega) (by have := hbw3.size; simp; omega) ?_; intro v4 w4 hown4 hgrow4 _; obtain ⟨g4, cap4, rfl⟩ := ownsRow_succ hown4))
  have hbw4 : Below w.heap.size w w4 := Below.grown (Below.alloc hbw3 hbw3.size _) hgrow4 (by have := hbw3.size; simp; omega) (fun q hq => (hown3.lt q hq).1)
  have hg4 : g4 < w4.heap.size := (hown4.lt g4 rfl).2
  have hown5 : w4.ownsRow w.heap.size 204 2 (.slice (some ⟨g4, 0, none⟩) (s.size + 1) cap4) (s.size + 1) (cellsC (allC (bytesL s))) := by
    rw [HA.out, cellsC_snoc]; exact hown4
  clear hgrow4 hown4 hown3 hbw3 hb3 hown2 hb2 hb1
  have hs4 := hbw4.size
  obtain ⟨W0, hW0⟩ : ∃ W0, ((((w4.alloc (.cells #[] 5)).alloc (.cells #[.slice (some ⟨w4.heap.size, 0, none⟩) 0 0] 22)).alloc (.cells #[.int .i64 0, .int .i64 0] 204)).alloc (.cells #[.slice (some ⟨g4, 0, none⟩) (s.size + 1) cap4] 201)) = W0 := ⟨_, rfl⟩
  have hsz : W0.heap.size = w4.heap.size + 1 + 1 + 1 + 1 := by rw [← hW0]; simp
  have hB0 : Below w.heap.size w W0 := by
    rw [← hW0]
    exact (((hbw4.alloc hs4 _).alloc (by simp; omega) _).alloc (by simp; omega) _).alloc (by simp; omega) _
  have hR0 : W0.ownsRow w.heap.size 204 2 (.slice (some ⟨g4, 0, none⟩) (s.size + 1) cap4) (s.size + 1) (cellsC (allC (bytesL s))) := by
    rw [← hW0]
    exact (((hown5.alloc _).alloc _).alloc _).alloc _
  have hO0 : W0.ownsRow w.heap.size 5 1 (.slice (some ⟨w4.heap.size, 0, none⟩) 0 0) 0 [] := by
    rw [← hW0]
    exact own_base ((((own_zeroU w4 5).alloc _).alloc _).alloc _) hs4
  have hBo : Boxed W0 (w4.heap.size + 1) 22 (.slice (some ⟨w4.heap.size, 0, none⟩) 0 0) := by
    rw [← hW0]
    have := Boxed.new (w4.alloc (.cells #[] 5)) 22 (.slice (some ⟨w4.heap.size, 0, none⟩) 0 0)
    rw [World.size_alloc] at this
    exact (this.alloc _).alloc _
  have hBh : Box2 W0 (w4.heap.size + 1 + 1) 0 0 := by
    rw [← hW0]
    have := heap_alloc_last ((w4.alloc (.cells #[] 5)).alloc (.cells #[.slice (some ⟨w4.heap.size, 0, none⟩) 0 0] 22)) (.cells #[.int .i64 0, .int .i64 0] 204)
    rw [World.size_alloc, World.size_alloc] at this
    exact blk_alloc this _
  have hBn : W0.heap[w4.heap.size + 1 + 1 + 1]? = some (.cells #[.slice (some ⟨g4, 0, none⟩) (s.size + 1) cap4] 201 (0, 0)) := by
    rw [← hW0]
    have := heap_alloc_last (((w4.alloc (.cells #[] 5)).alloc (.cells #[.slice (some ⟨w4.heap.size, 0, none⟩) 0 0] 22)).alloc (.cells #[.int .i64 0, .int .i64 0] 204)) (.cells #[.slice (some ⟨g4, 0, none⟩) (s.size + 1) cap4] 201)
    rw [World.size_alloc, World.size_alloc, World.size_alloc] at this
    exact this
  rw [hW0]
  clear hW0 hown5
  obtain ⟨G, hG⟩ : ∃ G, w4.heap.size = G := ⟨_, rfl⟩
  rw [hG] at hsz hO0 hBo hBh hBn hg4 hs4 ⊢
  clear hG hbw4
  obtain ⟨Bo, hBoe⟩ : ∃ Bo, G + 1 = Bo := ⟨_, rfl⟩
  obtain ⟨Bh, hBhe⟩ : ∃ Bh, Bo + 1 = Bh := ⟨_, rfl⟩
  obtain ⟨Bn, hBne⟩ : ∃ Bn, Bh + 1 = Bn := ⟨_, rfl⟩
  rw [hBoe] at hsz hBo hBh hBn ⊢
  rw [hBhe] at hsz hBh hBn ⊢
  rw [hBne] at hsz hBn ⊢
  have hne : Bo ≠ Bh := by omega
  have hne' : Bh ≠ Bo := by omega
  have hwo : w.heap.size ≤ Bo := by omega
  have hwh : w.heap.size ≤ Bh := by omega
  have hW0s : w.heap.size ≤ W0.heap.size := hB0.size
  refine wpIn_rangeFunc_ownG rfl (by omega) (gf := 164) (lb := #[.pointer (some ⟨Bn, 0, none⟩)]) rfl trivial (enters_of Try.func164 (by kernel_rfl) rfl)
    (bits_stops Bn (s.size + 1) cap4 Bo Bh w.heap.size (some ⟨g4, 0, none⟩) (allC (bytesL s)) (allC_bd _ HOK.out) (by unfold allC; rw [List.length_append, List.length_map, bytesL_length]; rfl) (by omega) W0 hBn (by omega) (by omega) (by simp [Value.ownBlock]; omega) (by simp [Value.ownBlock]; omega) hR0) KeepC.trans keepC_b (Below.refl _ _) (fun _ => rfl)
    (fun pre W => (∃ v, Boxed W Bo 22 v ∧ W.ownsRow w.heap.size 5 1 v (fullL (qL pre)).length ((fullL (qL pre)).map (Value.int .u8)) ∧ True) ∧ (Box2 W Bh (numB (leftL (qL pre))) (((qL pre).length % 8 : Nat) : Int) ∧ Below w.heap.size w W))
    (fun _ _ _ => False)
    (OwnFrom.and (Own.from (holdsRow_own w.heap.size Bo 22 5 1 (fun pre => (fullL (qL pre)).length) (fun pre => (fullL (qL pre)).map (Value.int .u8)) (fun _ _ => True)) _) (OwnFrom.and (Own.from (box2_own Bh (fun pre => numB (leftL (qL pre))) (fun pre => (((qL pre).length % 8 : Nat) : Int))) _) (ownFrom_below (Nat.le_refl _) hW0s)))
    (fun _ _ _ _ _ hs _ _ => hs)
    ⟨⟨_, hBo, hO0, trivial⟩, hBh, hB0⟩
    (fun x => { tmps := #[.string s, undef, .string ⟨#[]⟩, .slice (some ⟨g4, 0, none⟩) (s.size + 1) cap4, .pointer (some ⟨Bo, 0, none⟩), .pointer (some ⟨Bh, 0, none⟩), .int .i64 x.1, .string s, .bool true, .bool false, .string s, .slice a2 s.size c2, .slice a2 s.size c2, .slice a2 s.size c2, .agg #[.int .i64 p, .int .i64 f], .slice (some ⟨w3.heap.size, 0, none⟩) 1 1, .slice (some ⟨g4, 0, none⟩) (s.size + 1) cap4, .slice (some ⟨G, 0, none⟩) 0 0, .slice (some ⟨g4, 0, none⟩) (s.size + 1) cap4, .func (.func 164) #[] #[.pointer (some ⟨Bn, 0, none⟩)], .int .i64 x.1, undef, undef, undef, undef, undef, undef, undef, undef, undef, undef, undef, undef, undef, undef, undef], defers := [] }) ?assign ?body ?done ?stop
  case assign =>
    intro l x W K hK
    gi_wp2
    exact hK
  case body =>
    rintro l pre ⟨x, hx⟩ W ⟨⟨v, hv, hrow, _⟩, hbx, hB⟩ hlt
    have hqs : Hid (qL (pre ++ [⟨x, hx⟩]) = qL pre ++ [x]) := qL_snoc pre ⟨x, hx⟩
    have hlen : (qL pre).length < 136 := by
      have h1 := qL_length pre
      have h2 : (codesQ (allC (bytesL s))).length = (padB (packB (bytesL s))).length := by rw [← qL_length, allC_bits]
      have h3 := (padB_length (packB (bytesL s))).2.2
      have h4 := packB_length (bytesL s)
      rw [bytesL_length] at h4
      omega
    have hlb := left_bd (qL pre) (qL_bit pre)
    have hfl := fullL_length (qL pre)
    obtain ⟨L, hL⟩ : ∃ L, qL pre = L := ⟨_, rfl⟩
    rw [hL] at hrow hbx hqs hlen hlb hfl
    have HLL : Hid ((leftL L).length = L.length % 8) := leftL_length L
    obtain ⟨N, hN⟩ : ∃ N, numB (leftL L) = N := ⟨_, rfl⟩
    rw [hN] at hbx hlb
    obtain ⟨n0, n1⟩ := hlb
    obtain ⟨r, hr⟩ : ∃ r : Int, ((L.length % 8 : Nat) : Int) = r := ⟨_, rfl⟩
    rw [hr] at hbx
    have r0 : 0 ≤ r := by omega
    have r1 : r ≤ 7 := by omega
    obtain ⟨M, hM⟩ : ∃ M, 2 * N + x = M := ⟨_, rfl⟩
    have m0 : 0 ≤ M := by omega
    have m1 : M ≤ 255 := by omega
    have HM : Hid (2 * N + x = M) := hM
    have HMB : Hid (numB (leftL L ++ [x]) = M) := by show numB (leftL L ++ [x]) = M; rw [numB_snoc, hN, hM]
    have HR : Hid (((L.length % 8 : Nat) : Int) = r) := hr
    have HFL : Hid ((fullL L).length = L.length / 8) := hfl
    have hfl17 : (fullL L).length ≤ 17 := by omega
    have HLEN : Hid (L.length < 136) := hlen
    clear hL hN hr hM hfl hlen
    by_cases hfull : r = 7
    · subst hfull
      have HE := full_full (l := L) (x := x) (by have := HR.out; omega)
      have HE' : Hid (fullL (L ++ [x]) = fullL L ++ [M] ∧ leftL (L ++ [x]) = []) := by rw [HMB.out] at HE; exact HE
      clear HE
      gi_wp2_with (first | (refine wpListIn_load2 rfl _ rfl Bh N 7 rfl hbx ?_) | ((with_reducible refine And.intro ?_ ?_); exact trivial; gi_at_call 163; refine (CallsIn.inRound l (callsIn_wide.2 (with_M N 7 x _ M 8 HM.out rfl n0 (by omega) hx (by omega) (by omega)))).mono ?_; rintro e w5 ⟨rfl, hb5⟩; have hbx5 := hbx.below hb5; have hv5 := boxed_below hv hb5; have hrow5 := own_below' hrow hb5) | (refine wpListIn_store2 rfl _ _ rfl Bh N 7 M 8 rfl rfl hbx5 ?_; intro w6 hbx6 hg6; have c61 := hbx6.cell1; have c60 := hbx6.cell0; have hv6 := hv5.kept hg6 (by simp; omega); have hrow6 := hrow5.kept hg6 (.inr (hbx5.not_row hrow5).symm); have hvc := hv6.cell; have hs6 : w.heap.size ≤ w6.heap.size := Nat.le_trans (Nat.le_trans hB.size hb5.size) hg6.size; clear hbx5) | (gi_at_builtin; refine wpListIn_append_own _ rfl _ _ 22 rfl w.heap.size 5 i5 (.int .u8 0) 1 1 Try.underlying22 hi5 h50 h51 h52 rfl (by decide) _ _ _ rfl (hrow6.alloc _) ⟨w6.heap.size, 0, none⟩ 1 1 [.int .u8 M] rfl rfl (cell_one_new _ _ _) (by simp [Value.oneCell']) (by unfold maxLen; omega) (by omega) (by simp; omega) ?_; intro v7 w7 hown7 hgrow7 _; obtain ⟨g7, cap7, rfl⟩ := ownsRow_succ hown7; obtain ⟨hv7, hv8, hr8, hk8, hb8⟩ := hv6.appended (by decide) hrow6 hs6 hwo hown7 hgrow7; have hc7 := hv7.cell; have hf7 := hv7.frozen; have hbx7 : Box2 w7 Bh M 8 := kept_app hbx6 (by decide) hrow6 hgrow7; have hbx8 := hbx7.other ⟨Bo, 0, none⟩ (.slice (some ⟨g7, 0, none⟩) ((fullL L).length + 1) cap7) hne') | (refine wpListIn_store2 rfl _ _ rfl Bh M 8 0 0 rfl rfl hbx8 ?_; intro w9 hbx9 hg9))
      refine ⟨((((keepsOthers_of_below hb5).trans (keepsOthers_box2 (hbx.below hb5) hg6)).trans hk8).trans (keepsOthers_box2 hbx8 hg9)).from _, (((KeepC.of_below hb5).trans (KeepC.grown2 hg6)).trans (KeepC.appended hrow6 hgrow7)).trans (KeepC.grown2 hg9), ⟨_, hv8.kept hg9 (by simp; omega), ?_, trivial⟩, ?_, ?_⟩
      · rw [hqs.out, HE'.out.1, List.length_append, List.map_append]
        exact hr8.kept hg9 (.inr (hbx8.not_row hr8).symm)
      · rw [hqs.out, HE'.out.2, List.length_append, List.length_singleton, show (L.length + 1) % 8 = 0 by have := HR.out; omega]
        exact hbx9
      · exact ((hB.trans (hb5.mono hB.size)).trans (below_box2 (Nat.le_trans hB.size hb5.size) hwh hg6)).trans (hb8.trans (below_box2 (Nat.le_trans hs6 hb8.size) hwh hg9))
    · have HE' : Hid (fullL (L ++ [x]) = fullL L ∧ leftL (L ++ [x]) = leftL L ++ [x]) := full_on (by have := HR.out; omega)
      obtain ⟨R, hR⟩ : ∃ R, r + 1 = R := ⟨_, rfl⟩
      have h8 : R < 8 := by omega
      have HRR : Hid (r + 1 = R) := hR
      clear hR hfull
      gi_wp2_with (first | (refine wpListIn_load2 rfl _ rfl Bh N r rfl hbx ?_) | ((with_reducible refine And.intro ?_ ?_); exact trivial; gi_at_call 163; refine (CallsIn.inRound l (callsIn_wide.2 (with_M N r x _ M R HM.out HRR.out n0 (by omega) hx (by omega) (by omega)))).mono ?_; rintro e w5 ⟨rfl, hb5⟩; have hbx5 := hbx.below hb5; have hv5 := boxed_below hv hb5; have hrow5 := own_below' hrow hb5) | (refine wpListIn_store2 rfl _ _ rfl Bh N r M R rfl rfl hbx5 ?_; intro w6 hbx6 hg6; have c61 := hbx6.cell1; have c60 := hbx6.cell0; have hv6 := hv5.kept hg6 (by simp; omega); have hrow6 := hrow5.kept hg6 (.inr (hbx5.not_row hrow5).symm); have hvc := hv6.cell; have hs6 : w.heap.size ≤ w6.heap.size := Nat.le_trans (Nat.le_trans hB.size hb5.size) hg6.size; clear hbx5))
      refine ⟨((keepsOthers_of_below hb5).trans (keepsOthers_box2 (hbx.below hb5) hg6)).from _, (KeepC.of_below hb5).trans (KeepC.grown2 hg6), ⟨_, hv6, ?_, trivial⟩, ?_, ?_⟩
      · rw [hqs.out, HE'.out.1]
        exact hrow6
      · rw [hqs.out, HE'.out.2, HMB.out, List.length_append, List.length_singleton, show (((L.length + 1) % 8 : Nat) : Int) = R by have := HR.out; have := HRR.out; omega]
        exact hbx6
      · exact (hB.trans (hb5.mono hB.size)).trans (below_box2 (Nat.le_trans hB.size hb5.size) hwh hg6)
  case done =>
    rintro D ys W hD rfl ⟨⟨v, hv, hrow, _⟩, hbx, hB⟩ hK
    have hc := hv.cell
    have hcv := convert_owned (P := Try.prog) (src := 22) (dst := 9) Try.underlying22 Try.underlying5 Try.underlying9 hrow
    gi_wp2
    refine ⟨by simp, .inl ⟨_, _, rfl, run_takeDeferred hK, ?_⟩⟩
    refine ⟨_, results_tmp rfl _ _ _, ?_, hB.trans (belowK_b (w := W0) hW0s W D _ _ hD hK rfl rfl)⟩
    rw [allC_bits, fullL_pad]
    rfl
  case stop =>
    rintro D c pre W _ _ h _
    exact h.elim
end Go.Proofs.Ytghgcobnmmommaa
