import Derived.Test.YtbhoafiolalgaaaGreatHR3
namespace Go.Proofs.YtbhoafiolalgaaaGreat
open Go.RowKit
set_option linter.unusedVariables false

def lenS : Value → Nat
  | .string s => s.size
  | _ => 0
/-- What stands in a round of reading: the table in its box, the fields so far, the rest of the bytes. -/
structure RdIn (w : World) (max : Int) (R : Option (List Fd × List Fd)) (s1 o1 : Value) (wr : World) (gs acc : List Fd) (a1 : Option Addr) (n1 c1 : Nat) (ao : Option Addr) (no co : Nat) (s : ByteArray) : Prop where
  b : s1 = .string s
  o : o1 = .slice ao no co
  len : acc.length = no
  tab : wr.heap[w.heap.size]? = some (.cells #[.slice a1 n1 c1, .int .i64 max] 25 (0, 0))
  res : wr.heap[w.heap.size + 1]? = some (.cells #[.slice none 0 0, .int .i64 0] 25 (0, 0))
  fs : Fs wr a1 n1 c1 gs
  own : wr.ownsRow w.heap.size 52 3 (.slice ao no co) no (cellsF acc)
  apart : ∀ g x, a1 = some ⟨g, x, none⟩ → 0 < n1 → (Value.slice ao no co).ownBlock ≠ some g
  ok : tOk gs max = true
  sz : s.size ≤ 1000
  six : acc.length ≤ 6
  all : ∀ f ∈ acc, fOk f = true
  on : goOn acc (rdH (6 - acc.length) gs max (bytesL s)) = R
  bel : Below w.heap.size w wr
theorem bytes_ne {s : ByteArray} (h : 0 < s.size) : bytesL s ≠ [] := by
  intro e
  have := bytesL_length s
  rw [e] at this
  simp at this
  omega
theorem nm16 {gs : List Fd} {max : Int} (h : tOk gs max = true) : ∀ f ∈ fixedL ++ gs, f.n.size ≤ 16 := fun f hf => (fOk_size (all_ok h f hf).1).1
theorem bd_ok {gs : List Fd} {max : Int} (h : tOk gs max = true) : fsBd gs := fun x hx => by have := fOk_size ((tOk_parts h).1 x hx).1; omega
set_option maxRecDepth 100000 in
set_option maxHeartbeats 4000000 in
theorem l11Read_any (fs0 : List Fd) (a0 : Option Addr) (n0 cap0 : Nat) (max : Int) (s0 : ByteArray) (w : World) (hf : Fs w a0 n0 cap0 fs0) (ht : tOk fs0 max = true) (hs : s0.size ≤ 1000) :
    Calls Tryz.prog 21 #[.agg #[.slice a0 n0 cap0, .int .i64 max], .string s0] w (HrAns w (ansOf max (rdH 6 fs0 max (bytesL s0)))) := by
  obtain ⟨R, hR⟩ : ∃ R, rdH 6 fs0 max (bytesL s0) = R := ⟨_, rfl⟩
  rw [hR]
  have hb2 : Below w.heap.size w (((w.alloc (.cells #[.slice a0 n0 cap0, .int .i64 max] 25)).alloc (.cells #[.slice none 0 0, .int .i64 0] 25)).alloc (.cells #[] 52)) := (((Below.refl _ _).alloc (Nat.le_refl _) _).alloc (by simp) _).alloc (by simp; omega) _
  have hT3 : (((w.alloc (.cells #[.slice a0 n0 cap0, .int .i64 max] 25)).alloc (.cells #[.slice none 0 0, .int .i64 0] 25)).alloc (.cells #[] 52)).heap[w.heap.size]? = some (.cells #[.slice a0 n0 cap0, .int .i64 max] 25 (0, 0)) := blkT (blkT (heap_alloc_last w _) _) _
  have hR3 : (((w.alloc (.cells #[.slice a0 n0 cap0, .int .i64 max] 25)).alloc (.cells #[.slice none 0 0, .int .i64 0] 25)).alloc (.cells #[] 52)).heap[w.heap.size + 1]? = some (.cells #[.slice none 0 0, .int .i64 0] 25 (0, 0)) := by
    have h := heap_alloc_last (w.alloc (.cells #[.slice a0 n0 cap0, .int .i64 max] 25)) (.cells #[.slice none 0 0, .int .i64 0] 25)
    rw [World.size_alloc] at h
    exact blkT h _
  have hO3 : (((w.alloc (.cells #[.slice a0 n0 cap0, .int .i64 max] 25)).alloc (.cells #[.slice none 0 0, .int .i64 0] 25)).alloc (.cells #[] 52)).ownsRow w.heap.size 52 3 (.slice (some ⟨w.heap.size + 1 + 1, 0, none⟩) 0 0) 0 (cellsF []) := by
    have h := own_zero3 ((w.alloc (.cells #[.slice a0 n0 cap0, .int .i64 max] 25)).alloc (.cells #[.slice none 0 0, .int .i64 0] 25)) 52
    rw [World.size_alloc, World.size_alloc] at h
    exact own_baseT h (by omega)
  have H0 : Hid (RdIn w max R (.string s0) (.slice (some ⟨w.heap.size + 1 + 1, 0, none⟩) 0 0) (((w.alloc (.cells #[.slice a0 n0 cap0, .int .i64 max] 25)).alloc (.cells #[.slice none 0 0, .int .i64 0] 25)).alloc (.cells #[] 52)) fs0 [] a0 n0 cap0 (some ⟨w.heap.size + 1 + 1, 0, none⟩) 0 0 s0) := by
    refine ⟨rfl, rfl, rfl, hT3, hR3, hf.below hb2, hO3, ?_, ht, hs, by simp, by simp, ?_, hb2⟩
    · intro g x e hn h
      have := hf.lt2 g x e hn
      have e2 : w.heap.size + 1 + 1 = g := by injection h
      omega
    · show goOn [] (rdH 6 fs0 max (bytesL s0)) = R
      rw [hR]
      unfold goOn
      cases R <;> rfl
  clear hT3 hR3 hO3 hb2 hf ht hs hR
  unfold HrAns
  have hmx : Tryz.prog.follows .mixedOrders = true := by kernel_rfl
  go_enter Tryz.func21, Tryz.ntmps21
  go_wp2
  go_loopw [1, 7] (fun s1 o1 wr => ∃ gs acc a1 n1 c1 ao no co s, RdIn w max R s1 o1 wr gs acc a1 n1 c1 ao no co s) (fun s1 _ _ => lenS s1)
  case atStart => exact ⟨_, _, _, _, _, _, _, _, _, H0.out⟩
  case round =>
    clear H0
    obtain ⟨gs, acc, a, n, cap, ao, no, co, s, H⟩ := hrel
    obtain rfl := H.b
    obtain rfl := H.o
    have HI : Hid _ := H
    have hno := H.len
    have hsix := H.six
    have hsz := H.sz
    have htab := H.tab
    have hres := H.res
    obtain ⟨t0, t1⟩ := row2c htab
    obtain ⟨r0, r1⟩ := row2c hres
    have f0 := frz 0 hres
    have f1 := frz 1 hres
    by_cases hz : s.size = 0
    · have hem := isEmpty_true hz
      have hon : goOn acc (some (gs, [])) = R := by
        have h := H.on
        rwa [rdH_zero _ (by apply List.eq_nil_of_length_eq_zero; rw [bytesL_length]; exact hz)] at h
      have hR : R = some (gs, acc) := by rw [← hon]; simp [goOn]
      subst hR
      clear hon
      clear htab hno
      go_wp2
      have hne := not_rowT HI.out.res (by decide) HI.out.own
      exact bodyPost_ret (results_cell_tmp2 rfl _ _ (w.heap.size + 1) #[.slice a n cap, .int .i64 max] rfl (load_tab (set2_heap _ _ HI.out.res))) rfl ⟨a, n, cap, ao, no, co, rfl, HI.out.fs.set2 _ _ HI.out.res 0 1, own_Fs (own_setT (own_setT HI.out.own ⟨w.heap.size + 1, 0, none⟩ _ hne) ⟨w.heap.size + 1, 1, none⟩ _ hne), (HI.out.bel.setCell (p := ⟨w.heap.size + 1, 0, none⟩) (by show w.heap.size ≤ w.heap.size + 1; omega) _).setCell (p := ⟨w.heap.size + 1, 1, none⟩) (by show w.heap.size ≤ w.heap.size + 1; omega) _⟩
    · have hem := isEmpty_false (s := s) (by omega)
      have hbn := bytes_ne (s := s) (by omega)
      have hm := tOk_max H.ok
      have hone := fun (w' : World) (h : Fs w' a n cap gs) => l11One_any gs a n cap max s w' h (bd_ok H.ok) (nm16 H.ok) (by have := tOk_len H.ok; have := H.fs.len; omega) hm.1 hm.2 hsz (by omega)
      have hno6 := @round_no gs max s acc hbn
      have hyes := @round_yes gs max s acc hbn
      obtain ⟨⟨ys, f, u, ok⟩, hy⟩ : ∃ r, oneV gs max s = r := ⟨_, rfl⟩
      rw [hy] at hone hno6 hyes
      dsimp only at hone hno6 hyes
      unfold Fd.val at hone
      have HON := H.on
      have hfs := H.fs
      have hok2 := H.ok
      clear hy H
      by_cases hbad : ok = false ∨ 6 ≤ acc.length
      · have hRn := hno6 hbad
        rw [HON] at hRn
        subst hRn
        clear hyes hno6 HON
        cases ok with
        | false =>
          go_wp2_with (go_at_call 38; refine (hone _ hfs).mono ?_; clear hone; rintro e w1 ⟨a2, n2, c2, rfl, hF2, hap, hb1⟩; have hres1 := blkT (blkT (blkT (blkH hb1 hres) (.cells #[.slice a2 n2 c2, .int .i64 max] 25)) (.cells #[.string f.n, .string f.v, .bool f.q] 52)) (.cells #[] 52); obtain ⟨z0, z1⟩ := row2c hres1; have zf0 := frz 0 hres1; have zf1 := frz 1 hres1)
          have hbb : Below w.heap.size w (((w1.alloc (.cells #[.slice a2 n2 c2, .int .i64 max] 25)).alloc (.cells #[.string f.n, .string f.v, .bool f.q] 52)).alloc (.cells #[] 52)) := by
            have h := bt' HI.out.bel hb1
            have hz1 := h.size
            exact ((h.alloc h.size _).alloc (by rw [World.size_alloc]; omega) _).alloc (by rw [World.size_alloc, World.size_alloc]; omega) _
          exact bodyPost_ret (results_cell_tmp2 rfl _ _ (w.heap.size + 1) #[.slice none 0 0, .int .i64 0] rfl (load_tab (set2_heap _ _ hres1))) rfl ⟨none, 0, 0, _, 0, 0, rfl, Fs_nil _, Fs_nil2 _ _ _, (hbb.setCell (p := ⟨w.heap.size + 1, 0, none⟩) (by show w.heap.size ≤ w.heap.size + 1; omega) _).setCell (p := ⟨w.heap.size + 1, 1, none⟩) (by show w.heap.size ≤ w.heap.size + 1; omega) _⟩
        | true =>
          have h6 : 6 ≤ acc.length := by rcases hbad with c | c; cases c; exact c
          have h6' : (6 : Int) ≤ no := by omega
          go_wp2_with (go_at_call 38; refine (hone _ hfs).mono ?_; clear hone; rintro e w1 ⟨a2, n2, c2, rfl, hF2, hap, hb1⟩; have hres1 := blkT (blkT (blkT (blkH hb1 hres) (.cells #[.slice a2 n2 c2, .int .i64 max] 25)) (.cells #[.string f.n, .string f.v, .bool f.q] 52)) (.cells #[] 52); obtain ⟨z0, z1⟩ := row2c hres1; have zf0 := frz 0 hres1; have zf1 := frz 1 hres1)
          have hbb : Below w.heap.size w (((w1.alloc (.cells #[.slice a2 n2 c2, .int .i64 max] 25)).alloc (.cells #[.string f.n, .string f.v, .bool f.q] 52)).alloc (.cells #[] 52)) := by
            have h := bt' HI.out.bel hb1
            have hz1 := h.size
            exact ((h.alloc h.size _).alloc (by rw [World.size_alloc]; omega) _).alloc (by rw [World.size_alloc, World.size_alloc]; omega) _
          exact bodyPost_ret (results_cell_tmp2 rfl _ _ (w.heap.size + 1) #[.slice none 0 0, .int .i64 0] rfl (load_tab (set2_heap _ _ hres1))) rfl ⟨none, 0, 0, _, 0, 0, rfl, Fs_nil _, Fs_nil2 _ _ _, (hbb.setCell (p := ⟨w.heap.size + 1, 0, none⟩) (by show w.heap.size ≤ w.heap.size + 1; omega) _).setCell (p := ⟨w.heap.size + 1, 1, none⟩) (by show w.heap.size ≤ w.heap.size + 1; omega) _⟩
      · obtain ⟨rfl, hl6⟩ : ok = true ∧ acc.length < 6 := by
          constructor
          · cases ok with
            | true => rfl
            | false => exact absurd (.inl rfl) hbad
          · omega
        have hno6' : ¬ (6 : Int) ≤ no := by omega
        have hnolt : (no : Int) < 6 := by omega
        obtain ⟨u', hu, u1, u2, HG, hoks⟩ := hyes hl6 rfl
        subst hu
        obtain ⟨hgok, hfok⟩ := hoks hok2
        rw [HON] at HG
        have HGH : Hid _ := HG.symm
        clear HG HON hno6 hbad hok2
        have hsl := fun W => slice_rest s (u' : Int) (by omega) (by omega) W
        have hrs : (restS s (u' : Int)).size = s.size - u' := by rw [← bytesL_length, bytesL_rest, List.length_drop, bytesL_length]; omega
        go_upto_region 7 with (go_at_call 38; refine (hone _ hfs).mono ?_; clear hone; rintro e w1 ⟨a2, n2, c2, rfl, hF2, hap, hb1⟩; obtain ⟨z0, z1⟩ := row2c (blkT (blkT (blkH hb1 htab) (.cells #[.slice a2 n2 c2, .int .i64 max] 25)) (.cells #[.string f.n, .string f.v, .bool f.q] 52)); have zf0 := frz 0 (blkT (blkT (blkH hb1 htab) (.cells #[.slice a2 n2 c2, .int .i64 max] 25)) (.cells #[.string f.n, .string f.v, .bool f.q] 52)); have zf1 := frz 1 (blkT (blkT (blkH hb1 htab) (.cells #[.slice a2 n2 c2, .int .i64 max] 25)) (.cells #[.string f.n, .string f.v, .bool f.q] 52)))
        have hbw := bt' HI.out.bel hb1
        have hzw := hbw.size
        have hown1 := own_belowT HI.out.own hb1
        have hap2 : ∀ g x, a2 = some ⟨g, x, none⟩ → 0 < n2 → (Value.slice ao no co).ownBlock ≠ some g := by
          intro g x e hn c
          rcases hap with ⟨e1, e2⟩ | hnew
          · exact HI.out.apart g x (by rw [← e1]; exact e) (by omega) c
          · have := hnew g x e
            have := (HI.out.own.lt g c).2
            omega
        have hlt2 := hF2.lt2
        have hT1 := blkT (blkT (blkH hb1 htab) (.cells #[.slice a2 n2 c2, .int .i64 max] 25)) (.cells #[.string f.n, .string f.v, .bool f.q] 52)
        have hR1 := blkT (blkT (blkH hb1 hres) (.cells #[.slice a2 n2 c2, .int .i64 max] 25)) (.cells #[.string f.n, .string f.v, .bool f.q] 52)
        have hL1 : ((w1.alloc (.cells #[.slice a2 n2 c2, .int .i64 max] 25)).alloc (.cells #[.string f.n, .string f.v, .bool f.q] 52)).heap[w1.heap.size + 1]? = some (.cells #[.string f.n, .string f.v, .bool f.q] 52 (0, 0)) := by
          have h := heap_alloc_last (w1.alloc (.cells #[.slice a2 n2 c2, .int .i64 max] 25)) (.cells #[.string f.n, .string f.v, .bool f.q] 52)
          rw [World.size_alloc] at h
          exact h
        have hbA : Below w1.heap.size w1 ((w1.alloc (.cells #[.slice a2 n2 c2, .int .i64 max] 25)).alloc (.cells #[.string f.n, .string f.v, .bool f.q] 52)) := ((Below.refl _ _).alloc (Nat.le_refl _) _).alloc (by simp) _
        have hF3 := hF2.below hbA
        have hO3 := own_belowT hown1 hbA
        have hne3 := not_rowT hT1 (by decide) hO3
        have hB3 := bt' hbw hbA
        have hBN : w.heap.size < w1.heap.size := by have h := (Array.getElem?_eq_some_iff.1 (blkH hb1 htab)).1; exact h
        have hzU : ((((w1.alloc (.cells #[.slice a2 n2 c2, .int .i64 max] 25)).alloc (.cells #[.string f.n, .string f.v, .bool f.q] 52)).setCell ⟨w.heap.size, 0, none⟩ (.slice a2 n2 c2)).setCell ⟨w.heap.size, 1, none⟩ (.int .i64 max)).heap.size ≥ w1.heap.size + 1 + 1 := by simp
        refine wabs (fun U => U.heap[w.heap.size]? = some (.cells #[.slice a2 n2 c2, .int .i64 max] 25 (0, 0)) ∧ U.heap[w.heap.size + 1]? = some (.cells #[.slice none 0 0, .int .i64 0] 25 (0, 0)) ∧ U.heap[w1.heap.size + 1]? = some (.cells #[.string f.n, .string f.v, .bool f.q] 52 (0, 0)) ∧ Fs U a2 n2 c2 ys ∧ U.ownsRow w.heap.size 52 3 (.slice ao no co) no (cellsF acc) ∧ Below w.heap.size w U ∧ U.heap.size ≥ w1.heap.size + 1 + 1) ⟨set2_heap _ _ hT1, setc_other 1 _ (setc_other 0 _ hR1 (by omega)) (by omega), setc_other 1 _ (setc_other 0 _ hL1 (by omega)) (by omega), hF3.set2 _ _ hT1 0 1, own_setT (own_setT hO3 ⟨w.heap.size, 0, none⟩ _ hne3) ⟨w.heap.size, 1, none⟩ _ hne3, (hB3.setCell (p := ⟨w.heap.size, 0, none⟩) (Nat.le_refl _) _).setCell (p := ⟨w.heap.size, 1, none⟩) (Nat.le_refl _) _, hzU⟩ ?_
        clear hT1 hR1 hL1 hF3 hO3 hne3 hB3 hzU hbA hown1 hF2 hap
        rintro U ⟨hTU, hRU, hLU, hFU, hOU, hBU, hzU⟩
        obtain ⟨y0, y1, y2⟩ := row3c hLU
        have hbB : Below U.heap.size U (U.alloc (.cells #[.string f.n, .string f.v, .bool f.q] 52)) := (Below.refl _ _).alloc (Nat.le_refl _) _
        have hTV := blkH hbB hTU
        have hRV := blkH hbB hRU
        have hFV := hFU.below hbB
        have hOV := own_belowT hOU hbB
        have hBV := bt' hBU hbB
        have hneT := not_rowT hTV (by decide) hOV
        have hneR := not_rowT hRV (by decide) hOV
        have hFF : Fs (U.alloc (.cells #[.string f.n, .string f.v, .bool f.q] 52)) (some ⟨U.heap.size, 0, none⟩) 1 1 [f] := own_Fs (fs := [f]) (own_one3 U U.heap.size 52 _ _ _ (Nat.le_refl _))
        clear t0 t1 r0 r1 f0 f1 z0 z1 zf0 zf1 htab hres hb1 hyes
        go_wp2_with (at_builtin; refine wpList_appLies _ rfl _ _ rfl w.heap.size (.slice ao no co) no (cellsF acc) rfl hOV U.heap.size 0 1 1 [f] rfl hFF (by decide) (by omega) hBV.size ?_; intro g c w6 hown6 hgrow6 hat6)
        go_roundw
        case rel =>
          have hB6 : Below w.heap.size w w6 := hBV.grown hgrow6 hBV.size (fun q hq => (hOV.lt q hq).1)
          refine ⟨ys, acc ++ [f], a2, n2, c2, some ⟨g, 0, none⟩, no + 1, c, restS s (u' : Int), ?_⟩
          refine ⟨rfl, rfl, by rw [List.length_append, hno]; rfl, (hgrow6.block _ (Array.getElem?_eq_some_iff.1 hTV).1 hneT).trans hTV, (hgrow6.block _ (Array.getElem?_eq_some_iff.1 hRV).1 hneR).trans hRV, hFV.kept hgrow6 (fun g' x e hn => (hap2 g' x e hn).symm), by rw [cellsF_append]; exact hown6, ?_, hgok, by omega, by rw [List.length_append]; simp; omega, ?_, HGH.out, hB6⟩
          · intro g' x e hn hc
            have e2 : g = g' := by injection hc
            rcases hat6 with h | h
            · exact hap2 g' x e hn (by rw [h, e2])
            · have := hlt2 g' x e hn
              simp at h
              omega
          · intro x hx
            rcases List.mem_append.1 hx with h | h
            · exact HI.out.all x h
            · rw [List.mem_singleton.1 h]; exact hfok
        case measure => simp [lenS]; omega
end Go.Proofs.YtbhoafiolalgaaaGreat
