import Derived.Test.YtpgcmjbmkjnjnaaFlI1
import Derived.Deep.RegionHeld3
namespace Go.Proofs.Ytpgcmjbmkjnjnaa
open Go.RowKit
set_option linter.unusedVariables false

theorem infoFn4 : (Try.prog.info? 51).map (·.size) = some 4 := by kernel_rfl
abbrev FnsV : Array Value := #[.func (.func 37) #[] #[], .func (.func 38) #[] #[], .func (.func 39) #[] #[], .func (.func 40) #[] #[]]
theorem keepW {w1 w2 : World} {p : Addr} {v : Value} (hb : Below w1.heap.size w1 w2) (h : w1.cell? p = some v) : w2.cell? p = some v := (hb.cell (World.block_lt_of_cell? w1 _ h)).trans h
/-- What is known of the world at the region that calls. -/
abbrev FbS (w V : World) (s r : Int) (k : Nat) (fn : Value) (w' : World) : Prop := w'.cell? ⟨w.heap.size, 0, none⟩ = some (.int .i64 s) ∧ w'.cell? ⟨w.heap.size, 1, none⟩ = some (.int .i64 r) ∧ w'.cell? ⟨w.heap.size + 2, k, none⟩ = some fn ∧ Below V.heap.size V w'

set_option maxRecDepth 100000 in
set_option maxHeartbeats 1000000 in
theorem behindSend (f : Fw) (n : Int) (w : World) :
    Calls Try.prog 35 #[f.val, .int .i64 0, .int .i64 n] w fun e w' => e = .returned (.tuple #[(flSend f n).1.val, .bool (flSend f n).2]) ∧ Below w.heap.size w w' := by
  obtain ⟨s, r⟩ := f
  have hok := fun x y w => implFlowOk ⟨x, y⟩ w
  unfold Fw.val at hok ⊢
  have hA : Below w.heap.size w (w.alloc (.cells #[.int .i64 s, .int .i64 r] 24)) := (Below.refl _ _).alloc (Nat.le_refl _) _
  have hB : Below w.heap.size w ((w.alloc (.cells #[.int .i64 s, .int .i64 r] 24)).alloc (.cells #[.int .i64 0, .int .i64 0] 24)) := hA.alloc (by rw [World.size_alloc]; omega) _
  have hF : ((w.alloc (.cells #[.int .i64 s, .int .i64 r] 24)).alloc (.cells #[.int .i64 0, .int .i64 0] 24)).heap[w.heap.size]? = some (.cells #[.int .i64 s, .int .i64 r] 24 (0, 0)) := blkF ((Below.refl _ _).alloc (Nat.le_refl _) _) (heap_alloc_last w _)
  have hR : ((w.alloc (.cells #[.int .i64 s, .int .i64 r] 24)).alloc (.cells #[.int .i64 0, .int .i64 0] 24)).heap[w.heap.size + 1]? = some (.cells #[.int .i64 0, .int .i64 0] 24 (0, 0)) := by
    have h := heap_alloc_last (w.alloc (.cells #[.int .i64 s, .int .i64 r] 24)) (.cells #[.int .i64 0, .int .i64 0] 24)
    rw [World.size_alloc] at h
    exact h
  have hZ : ((w.alloc (.cells #[.int .i64 s, .int .i64 r] 24)).alloc (.cells #[.int .i64 0, .int .i64 0] 24)).heap.size = w.heap.size + 2 := by rw [World.size_alloc, World.size_alloc]
  obtain ⟨⟨⟨gx, gy⟩, gc⟩, hX⟩ : ∃ A, flSend ⟨s, r⟩ n = A := ⟨_, rfl⟩
  rw [hX]
  dsimp only at hok ⊢
  go_enter Try.func35, Try.ntmps35
  go_upto_region 1 with fail
  refine wabsW (fun V => V.heap[w.heap.size]? = some (.cells #[.int .i64 s, .int .i64 r] 24 (0, 0)) ∧ V.heap[w.heap.size + 1]? = some (.cells #[.int .i64 0, .int .i64 0] 24 (0, 0)) ∧ V.heap.size = w.heap.size + 2 ∧ Below w.heap.size w V) ⟨hF, hR, hZ, hB⟩ ?_
  clear hF hR hB hZ
  rintro V ⟨hF, hR, hZ, hB⟩
  have HN0 : Hid ((V.alloc (.cells #[.nilFunc, .nilFunc, .nilFunc, .nilFunc] 51)).heap[w.heap.size + 2]? = some (.cells #[.nilFunc, .nilFunc, .nilFunc, .nilFunc] 51 (0, 0))) := by have h := heap_alloc_last V (.cells #[.nilFunc, .nilFunc, .nilFunc, .nilFunc] 51); rw [hZ] at h; exact h
  have HNS : Hid ((V.alloc (.cells #[.nilFunc, .nilFunc, .nilFunc, .nilFunc] 51)).setRow (w.heap.size + 2) FnsV = V.alloc (.cells FnsV 51)) := by have h := World.setRow_alloc_new V #[.nilFunc, .nilFunc, .nilFunc, .nilFunc] FnsV 51; rw [hZ] at h; exact h
  have hN1 : (V.alloc (.cells FnsV 51)).heap[w.heap.size + 2]? = some (.cells FnsV 51 (0, 0)) := by have h := heap_alloc_last V (.cells FnsV 51); rw [hZ] at h; exact h
  have hB1 : Below w.heap.size w (V.alloc (.cells FnsV 51)) := hB.alloc (by omega) _
  have hF1 := blkF ((Below.refl _ V).alloc (Nat.le_refl _) (.cells FnsV 51)) hF
  have hR1 := blkF ((Below.refl _ V).alloc (Nat.le_refl _) (.cells FnsV 51)) hR
  go_upto_region 2 with (refine wpList_store_row rfl 51 _ _ rfl (w.heap.size + 2) FnsV rfl rfl 51 _ HN0.out infoFn4 rfl (by simp [FnsV, Value.oneCell']) ?_; rw [HNS.out])
  clear HN0 HNS
  refine wabsW (fun V => V.heap[w.heap.size]? = some (.cells #[.int .i64 s, .int .i64 r] 24 (0, 0)) ∧ V.heap[w.heap.size + 1]? = some (.cells #[.int .i64 0, .int .i64 0] 24 (0, 0)) ∧ V.heap[w.heap.size + 2]? = some (.cells FnsV 51 (0, 0)) ∧ Below w.heap.size w V) ⟨hF1, hR1, hN1, hB1⟩ ?_
  clear hF1 hR1 hN1 hB1 hZ hF hR hB V hA
  rintro V ⟨hF, hR, hN, hB⟩
  obtain ⟨p0, p1, p2, p3⟩ := row2w hF
  go_wp2_with fail
  refine (hok _ _ _).mono ?_
  rintro e VV ⟨rfl, hb⟩
  replace hF := blkF hb hF
  replace hR := blkF hb hR
  replace hN := blkF hb hN
  replace hB := btF hB hb
  clear hb p0 p1 p2 p3
  obtain ⟨p0, p1, p2, p3⟩ := row2w hF
  cases ho : flOk ⟨s, r⟩ with
  | false =>
    rw [flSend_no (by rw [ho]; simp)] at hX
    unfold zFw at hX
    cases hX
    obtain ⟨q0, q1, q2, q3⟩ := row2w hR
    go_wp2
    exact bodyPost_ret (results_ctW rfl _ _ (w.heap.size + 1) #[.int .i64 0, .int .i64 0] rfl (load_fw (set2W _ _ hR))) rfl ⟨rfl, belW1 (belW1 hB (by omega) _) (by omega) _⟩
  | true =>
    have hbd := flOk_iff.1 ho
    dsimp only at hbd
    obtain ⟨⟨hs0, hs1⟩, hr0, hr1⟩ := hbd
    have c0 : VV.cell? ⟨w.heap.size + 2, 0, none⟩ = some (.func (.func 37) #[] #[]) := by simp [World.cell?, hN]
    clear hN
    by_cases hn : 0 ≤ n ∧ n ≤ 31
    · have hnn := fun w => numOk_yes n w hn
      have hm := fun w => flow_sent s r n w ⟨hs0, hs1⟩ ⟨hr0, hr1⟩ hn
      by_cases hl : n ≤ s
      · rw [flSend_yes ho (by omega) hl] at hX
        cases hX
        have hok2 : flOk ⟨s - n, r⟩ = true := flOk_iff.2 ⟨⟨by dsimp only; omega, by dsimp only; omega⟩, by dsimp only; omega, by dsimp only; omega⟩
        clear hl ho hn
        go_upto_region 4 with (go_at_call 36; refine (hnn _).mono ?_; rintro e VV ⟨rfl, rfl⟩)
        have hOfV : ∀ w', Below VV.heap.size VV w' → FbS w VV s r 0 (.func (.func 37) #[] #[]) w' := fun w' hb => ⟨keepW hb p0, keepW hb p1, keepW hb c0, hb⟩
        have hkeepV : ∀ w1 w2 : World, Below w1.heap.size w1 w2 → FbS w VV s r 0 (.func (.func 37) #[] #[]) w1 → FbS w VV s r 0 (.func (.func 37) #[] #[]) w2 := fun w1 w2 hb h => hOfV _ (btF h.2.2.2 hb)
        have hV0 := hOfV VV (Below.refl _ _)
        clear p0 p1 p2 p3 c0 hnn
        go_cut [9] from 20 to 25 (fun s9 wx => ∃ b, s9 = .pointer (some ⟨b, 0, none⟩) ∧ wx.heap[b]? = some (.cells #[.int .i64 (s - n), .int .i64 (r)] 24 (0, 0)) ∧ Below VV.heap.size VV wx)
        case first =>
          go_region_held3 (fun w' => w'.cell? ⟨w.heap.size, 0, none⟩ = some (.int .i64 s) ∧ w'.cell? ⟨w.heap.size, 1, none⟩ = some (.int .i64 r) ∧ w'.cell? ⟨w.heap.size + 2, 0, none⟩ = some (.func (.func 37) #[] #[]) ∧ Below VV.heap.size VV w') ((first | assumption | exact hkeepV _ _ ((Below.refl _ _).drew) hV0 | exact hkeepV _ _ ((Below.refl _ _).alloc (Nat.le_refl _) _) (by assumption) | exact hkeepV _ _ hb3 (by assumption) | exact hOfV _ ((hE3.setCell (p := ⟨_, 0, none⟩) hLb _).setCell (p := ⟨_, 1, none⟩) hLb _) | exact hOfV _ (hE3.alloc hE3.size _))) ((go_at_call 37; refine (hm _).mono ?_; rintro e w3 ⟨rfl, hb3⟩; have hE3 := btF ((by assumption : FbS w VV s r 0 (.func (.func 37) #[] #[]) _).2.2.2) hb3; (first | (have hL3 : w3.heap[VV.heap.size]? = some (.cells #[.int .i64 0, .int .i64 0] 24 (0, 0)) := blkF hb3 (heap_alloc_last VV.drew (.cells #[.int .i64 0, .int .i64 0] 24)); have hLb : VV.heap.size ≤ VV.heap.size := Nat.le_refl _; obtain ⟨l0, l1, q0, q1⟩ := row2w hL3) | skip)))
          all_goals
            first
              | (have hL4 : w3.heap[VV.heap.size]? = some (.cells #[.int .i64 0, .int .i64 0] 24 (0, 0)) := hL3
                 have hL6 := set2W (.int .i64 (s - n)) (.int .i64 (r)) hL4
                 have hE6 := (hE3.setCell (p := ⟨VV.heap.size, 0, none⟩) hLb (.int .i64 (s - n))).setCell (p := ⟨VV.heap.size, 1, none⟩) hLb (.int .i64 (r))
                 go_wp2_with fail
                 go_meet
                 exact ⟨_, rfl, hL6, hE6⟩)
              | (have hL6 := heap_alloc_last w3 (.cells #[.int .i64 (s - n), .int .i64 (r)] 24)
                 have hE6 := hE3.alloc hE3.size (.cells #[.int .i64 (s - n), .int .i64 (r)] 24)
                 go_wp2_with fail
                 go_meet
                 exact ⟨_, rfl, hL6, hE6⟩)
        case rest =>
        obtain ⟨b, rfl, hC, hcV⟩ := hcut
        replace hR := blkF hcV hR
        replace hB := btF hB hcV
        clear hcV hV0 hkeepV hOfV
        obtain ⟨c0, c1, c2, c3⟩ := row2w hC
        go_wp2_with fail
        have hok3 := hok (s - n) (r) wc
        rw [hok2] at hok3
        refine hok3.mono ?_
        clear hok hok3
        rintro e w4 ⟨rfl, hb⟩
        replace hR := blkF hb hR
        replace hC := blkF hb hC
        replace hB := btF hB hb
        clear hb c0 c1 c2 c3
        obtain ⟨c0, c1, c2, c3⟩ := row2w hC
        obtain ⟨q0, q1, q2, q3⟩ := row2w hR
        go_wp2
        exact bodyPost_ret (results_ctW rfl _ _ (w.heap.size + 1) #[.int .i64 (s - n), .int .i64 (r)] rfl (load_fw (set2W _ _ hR))) rfl ⟨rfl, belW1 (belW1 hB (by omega) _) (by omega) _⟩
      · rw [flSend_no (fun h => hl h.2.2)] at hX
        unfold zFw at hX
        cases hX
        have hok2 : flOk ⟨s - n, r⟩ = false := flOk_no.2 (fun h => by dsimp only at h; omega)
        clear hl ho hn
        go_upto_region 4 with (go_at_call 36; refine (hnn _).mono ?_; rintro e VV ⟨rfl, rfl⟩)
        have hOfV : ∀ w', Below VV.heap.size VV w' → FbS w VV s r 0 (.func (.func 37) #[] #[]) w' := fun w' hb => ⟨keepW hb p0, keepW hb p1, keepW hb c0, hb⟩
        have hkeepV : ∀ w1 w2 : World, Below w1.heap.size w1 w2 → FbS w VV s r 0 (.func (.func 37) #[] #[]) w1 → FbS w VV s r 0 (.func (.func 37) #[] #[]) w2 := fun w1 w2 hb h => hOfV _ (btF h.2.2.2 hb)
        have hV0 := hOfV VV (Below.refl _ _)
        clear p0 p1 p2 p3 c0 hnn
        go_cut [9] from 20 to 25 (fun s9 wx => ∃ b, s9 = .pointer (some ⟨b, 0, none⟩) ∧ wx.heap[b]? = some (.cells #[.int .i64 (s - n), .int .i64 (r)] 24 (0, 0)) ∧ Below VV.heap.size VV wx)
        case first =>
          go_region_held3 (fun w' => w'.cell? ⟨w.heap.size, 0, none⟩ = some (.int .i64 s) ∧ w'.cell? ⟨w.heap.size, 1, none⟩ = some (.int .i64 r) ∧ w'.cell? ⟨w.heap.size + 2, 0, none⟩ = some (.func (.func 37) #[] #[]) ∧ Below VV.heap.size VV w') ((first | assumption | exact hkeepV _ _ ((Below.refl _ _).drew) hV0 | exact hkeepV _ _ ((Below.refl _ _).alloc (Nat.le_refl _) _) (by assumption) | exact hkeepV _ _ hb3 (by assumption) | exact hOfV _ ((hE3.setCell (p := ⟨_, 0, none⟩) hLb _).setCell (p := ⟨_, 1, none⟩) hLb _) | exact hOfV _ (hE3.alloc hE3.size _))) ((go_at_call 37; refine (hm _).mono ?_; rintro e w3 ⟨rfl, hb3⟩; have hE3 := btF ((by assumption : FbS w VV s r 0 (.func (.func 37) #[] #[]) _).2.2.2) hb3; (first | (have hL3 : w3.heap[VV.heap.size]? = some (.cells #[.int .i64 0, .int .i64 0] 24 (0, 0)) := blkF hb3 (heap_alloc_last VV.drew (.cells #[.int .i64 0, .int .i64 0] 24)); have hLb : VV.heap.size ≤ VV.heap.size := Nat.le_refl _; obtain ⟨l0, l1, q0, q1⟩ := row2w hL3) | skip)))
          all_goals
            first
              | (have hL4 : w3.heap[VV.heap.size]? = some (.cells #[.int .i64 0, .int .i64 0] 24 (0, 0)) := hL3
                 have hL6 := set2W (.int .i64 (s - n)) (.int .i64 (r)) hL4
                 have hE6 := (hE3.setCell (p := ⟨VV.heap.size, 0, none⟩) hLb (.int .i64 (s - n))).setCell (p := ⟨VV.heap.size, 1, none⟩) hLb (.int .i64 (r))
                 go_wp2_with fail
                 go_meet
                 exact ⟨_, rfl, hL6, hE6⟩)
              | (have hL6 := heap_alloc_last w3 (.cells #[.int .i64 (s - n), .int .i64 (r)] 24)
                 have hE6 := hE3.alloc hE3.size (.cells #[.int .i64 (s - n), .int .i64 (r)] 24)
                 go_wp2_with fail
                 go_meet
                 exact ⟨_, rfl, hL6, hE6⟩)
        case rest =>
        obtain ⟨b, rfl, hC, hcV⟩ := hcut
        replace hR := blkF hcV hR
        replace hB := btF hB hcV
        clear hcV hV0 hkeepV hOfV
        obtain ⟨c0, c1, c2, c3⟩ := row2w hC
        go_wp2_with fail
        have hok3 := hok (s - n) (r) wc
        rw [hok2] at hok3
        refine hok3.mono ?_
        clear hok hok3
        rintro e w4 ⟨rfl, hb⟩
        replace hR := blkF hb hR
        replace hC := blkF hb hC
        replace hB := btF hB hb
        clear hb c0 c1 c2 c3
        obtain ⟨c0, c1, c2, c3⟩ := row2w hC
        obtain ⟨q0, q1, q2, q3⟩ := row2w hR
        go_wp2
        exact bodyPost_ret (results_ctW rfl _ _ (w.heap.size + 1) #[.int .i64 0, .int .i64 0] rfl (load_fw (set2W _ _ hR))) rfl ⟨rfl, belW1 (belW1 hB (by omega) _) (by omega) _⟩
    · have hnn := fun w => numOk_no n w hn
      rw [flSend_no (fun h => hn ⟨h.2.1, by dsimp only at h; omega⟩)] at hX
      unfold zFw at hX
      cases hX
      obtain ⟨q0, q1, q2, q3⟩ := row2w hR
      go_wp2_with (go_at_call 36; refine (hnn _).mono ?_; rintro e VV ⟨rfl, rfl⟩)
      exact bodyPost_ret (results_ctW rfl _ _ (w.heap.size + 1) #[.int .i64 0, .int .i64 0] rfl (load_fw (set2W _ _ hR))) rfl ⟨rfl, belW1 (belW1 hB (by omega) _) (by omega) _⟩

set_option maxRecDepth 100000 in
set_option maxHeartbeats 1000000 in
theorem behindMore (f : Fw) (n : Int) (w : World) (h0 : n ≠ 0) :
    Calls Try.prog 35 #[f.val, .int .i64 1, .int .i64 n] w fun e w' => e = .returned (.tuple #[(flMore f n).1.val, .bool (flMore f n).2]) ∧ Below w.heap.size w w' := by
  obtain ⟨s, r⟩ := f
  have hok := fun x y w => implFlowOk ⟨x, y⟩ w
  unfold Fw.val at hok ⊢
  have hA : Below w.heap.size w (w.alloc (.cells #[.int .i64 s, .int .i64 r] 24)) := (Below.refl _ _).alloc (Nat.le_refl _) _
  have hB : Below w.heap.size w ((w.alloc (.cells #[.int .i64 s, .int .i64 r] 24)).alloc (.cells #[.int .i64 0, .int .i64 0] 24)) := hA.alloc (by rw [World.size_alloc]; omega) _
  have hF : ((w.alloc (.cells #[.int .i64 s, .int .i64 r] 24)).alloc (.cells #[.int .i64 0, .int .i64 0] 24)).heap[w.heap.size]? = some (.cells #[.int .i64 s, .int .i64 r] 24 (0, 0)) := blkF ((Below.refl _ _).alloc (Nat.le_refl _) _) (heap_alloc_last w _)
  have hR : ((w.alloc (.cells #[.int .i64 s, .int .i64 r] 24)).alloc (.cells #[.int .i64 0, .int .i64 0] 24)).heap[w.heap.size + 1]? = some (.cells #[.int .i64 0, .int .i64 0] 24 (0, 0)) := by
    have h := heap_alloc_last (w.alloc (.cells #[.int .i64 s, .int .i64 r] 24)) (.cells #[.int .i64 0, .int .i64 0] 24)
    rw [World.size_alloc] at h
    exact h
  have hZ : ((w.alloc (.cells #[.int .i64 s, .int .i64 r] 24)).alloc (.cells #[.int .i64 0, .int .i64 0] 24)).heap.size = w.heap.size + 2 := by rw [World.size_alloc, World.size_alloc]
  obtain ⟨⟨⟨gx, gy⟩, gc⟩, hX⟩ : ∃ A, flMore ⟨s, r⟩ n = A := ⟨_, rfl⟩
  rw [hX]
  dsimp only at hok ⊢
  go_enter Try.func35, Try.ntmps35
  go_upto_region 1 with fail
  refine wabsW (fun V => V.heap[w.heap.size]? = some (.cells #[.int .i64 s, .int .i64 r] 24 (0, 0)) ∧ V.heap[w.heap.size + 1]? = some (.cells #[.int .i64 0, .int .i64 0] 24 (0, 0)) ∧ V.heap.size = w.heap.size + 2 ∧ Below w.heap.size w V) ⟨hF, hR, hZ, hB⟩ ?_
  clear hF hR hB hZ
  rintro V ⟨hF, hR, hZ, hB⟩
  have HN0 : Hid ((V.alloc (.cells #[.nilFunc, .nilFunc, .nilFunc, .nilFunc] 51)).heap[w.heap.size + 2]? = some (.cells #[.nilFunc, .nilFunc, .nilFunc, .nilFunc] 51 (0, 0))) := by have h := heap_alloc_last V (.cells #[.nilFunc, .nilFunc, .nilFunc, .nilFunc] 51); rw [hZ] at h; exact h
  have HNS : Hid ((V.alloc (.cells #[.nilFunc, .nilFunc, .nilFunc, .nilFunc] 51)).setRow (w.heap.size + 2) FnsV = V.alloc (.cells FnsV 51)) := by have h := World.setRow_alloc_new V #[.nilFunc, .nilFunc, .nilFunc, .nilFunc] FnsV 51; rw [hZ] at h; exact h
  have hN1 : (V.alloc (.cells FnsV 51)).heap[w.heap.size + 2]? = some (.cells FnsV 51 (0, 0)) := by have h := heap_alloc_last V (.cells FnsV 51); rw [hZ] at h; exact h
  have hB1 : Below w.heap.size w (V.alloc (.cells FnsV 51)) := hB.alloc (by omega) _
  have hF1 := blkF ((Below.refl _ V).alloc (Nat.le_refl _) (.cells FnsV 51)) hF
  have hR1 := blkF ((Below.refl _ V).alloc (Nat.le_refl _) (.cells FnsV 51)) hR
  go_upto_region 2 with (refine wpList_store_row rfl 51 _ _ rfl (w.heap.size + 2) FnsV rfl rfl 51 _ HN0.out infoFn4 rfl (by simp [FnsV, Value.oneCell']) ?_; rw [HNS.out])
  clear HN0 HNS
  refine wabsW (fun V => V.heap[w.heap.size]? = some (.cells #[.int .i64 s, .int .i64 r] 24 (0, 0)) ∧ V.heap[w.heap.size + 1]? = some (.cells #[.int .i64 0, .int .i64 0] 24 (0, 0)) ∧ V.heap[w.heap.size + 2]? = some (.cells FnsV 51 (0, 0)) ∧ Below w.heap.size w V) ⟨hF1, hR1, hN1, hB1⟩ ?_
  clear hF1 hR1 hN1 hB1 hZ hF hR hB V hA
  rintro V ⟨hF, hR, hN, hB⟩
  obtain ⟨p0, p1, p2, p3⟩ := row2w hF
  go_wp2_with fail
  refine (hok _ _ _).mono ?_
  rintro e VV ⟨rfl, hb⟩
  replace hF := blkF hb hF
  replace hR := blkF hb hR
  replace hN := blkF hb hN
  replace hB := btF hB hb
  clear hb p0 p1 p2 p3
  obtain ⟨p0, p1, p2, p3⟩ := row2w hF
  cases ho : flOk ⟨s, r⟩ with
  | false =>
    rw [flMore_no (by rw [ho]; simp)] at hX
    unfold zFw at hX
    cases hX
    obtain ⟨q0, q1, q2, q3⟩ := row2w hR
    go_wp2
    exact bodyPost_ret (results_ctW rfl _ _ (w.heap.size + 1) #[.int .i64 0, .int .i64 0] rfl (load_fw (set2W _ _ hR))) rfl ⟨rfl, belW1 (belW1 hB (by omega) _) (by omega) _⟩
  | true =>
    have hbd := flOk_iff.1 ho
    dsimp only at hbd
    obtain ⟨⟨hs0, hs1⟩, hr0, hr1⟩ := hbd
    have c0 : VV.cell? ⟨w.heap.size + 2, 1, none⟩ = some (.func (.func 38) #[] #[]) := by simp [World.cell?, hN]
    clear hN
    by_cases hn : 0 ≤ n ∧ n ≤ 31
    · have hnn := fun w => numOk_yes n w hn
      have hm := fun w => flow_more s r n w ⟨hs0, hs1⟩ ⟨hr0, hr1⟩ hn
      by_cases hl : n ≤ 31 - s
      · rw [flMore_yes ho (by omega) hl] at hX
        cases hX
        have hok2 : flOk ⟨s + n, r⟩ = true := flOk_iff.2 ⟨⟨by dsimp only; omega, by dsimp only; omega⟩, by dsimp only; omega, by dsimp only; omega⟩
        clear hl ho hn
        go_upto_region 4 with (go_at_call 36; refine (hnn _).mono ?_; rintro e VV ⟨rfl, rfl⟩)
        have hOfV : ∀ w', Below VV.heap.size VV w' → FbS w VV s r 1 (.func (.func 38) #[] #[]) w' := fun w' hb => ⟨keepW hb p0, keepW hb p1, keepW hb c0, hb⟩
        have hkeepV : ∀ w1 w2 : World, Below w1.heap.size w1 w2 → FbS w VV s r 1 (.func (.func 38) #[] #[]) w1 → FbS w VV s r 1 (.func (.func 38) #[] #[]) w2 := fun w1 w2 hb h => hOfV _ (btF h.2.2.2 hb)
        have hV0 := hOfV VV (Below.refl _ _)
        clear p0 p1 p2 p3 c0 hnn
        go_cut [9] from 20 to 25 (fun s9 wx => ∃ b, s9 = .pointer (some ⟨b, 0, none⟩) ∧ wx.heap[b]? = some (.cells #[.int .i64 (s + n), .int .i64 (r)] 24 (0, 0)) ∧ Below VV.heap.size VV wx)
        case first =>
          go_region_held3 (fun w' => w'.cell? ⟨w.heap.size, 0, none⟩ = some (.int .i64 s) ∧ w'.cell? ⟨w.heap.size, 1, none⟩ = some (.int .i64 r) ∧ w'.cell? ⟨w.heap.size + 2, 1, none⟩ = some (.func (.func 38) #[] #[]) ∧ Below VV.heap.size VV w') ((first | assumption | exact hkeepV _ _ ((Below.refl _ _).drew) hV0 | exact hkeepV _ _ ((Below.refl _ _).alloc (Nat.le_refl _) _) (by assumption) | exact hkeepV _ _ hb3 (by assumption) | exact hOfV _ ((hE3.setCell (p := ⟨_, 0, none⟩) hLb _).setCell (p := ⟨_, 1, none⟩) hLb _) | exact hOfV _ (hE3.alloc hE3.size _))) ((go_at_call 38; refine (hm _).mono ?_; rintro e w3 ⟨rfl, hb3⟩; have hE3 := btF ((by assumption : FbS w VV s r 1 (.func (.func 38) #[] #[]) _).2.2.2) hb3; (first | (have hL3 : w3.heap[VV.heap.size]? = some (.cells #[.int .i64 0, .int .i64 0] 24 (0, 0)) := blkF hb3 (heap_alloc_last VV.drew (.cells #[.int .i64 0, .int .i64 0] 24)); have hLb : VV.heap.size ≤ VV.heap.size := Nat.le_refl _; obtain ⟨l0, l1, q0, q1⟩ := row2w hL3) | skip)))
          all_goals
            first
              | (have hL4 : w3.heap[VV.heap.size]? = some (.cells #[.int .i64 0, .int .i64 0] 24 (0, 0)) := hL3
                 have hL6 := set2W (.int .i64 (s + n)) (.int .i64 (r)) hL4
                 have hE6 := (hE3.setCell (p := ⟨VV.heap.size, 0, none⟩) hLb (.int .i64 (s + n))).setCell (p := ⟨VV.heap.size, 1, none⟩) hLb (.int .i64 (r))
                 go_wp2_with fail
                 go_meet
                 exact ⟨_, rfl, hL6, hE6⟩)
              | (have hL6 := heap_alloc_last w3 (.cells #[.int .i64 (s + n), .int .i64 (r)] 24)
                 have hE6 := hE3.alloc hE3.size (.cells #[.int .i64 (s + n), .int .i64 (r)] 24)
                 go_wp2_with fail
                 go_meet
                 exact ⟨_, rfl, hL6, hE6⟩)
        case rest =>
        obtain ⟨b, rfl, hC, hcV⟩ := hcut
        replace hR := blkF hcV hR
        replace hB := btF hB hcV
        clear hcV hV0 hkeepV hOfV
        obtain ⟨c0, c1, c2, c3⟩ := row2w hC
        go_wp2_with fail
        have hok3 := hok (s + n) (r) wc
        rw [hok2] at hok3
        refine hok3.mono ?_
        clear hok hok3
        rintro e w4 ⟨rfl, hb⟩
        replace hR := blkF hb hR
        replace hC := blkF hb hC
        replace hB := btF hB hb
        clear hb c0 c1 c2 c3
        obtain ⟨c0, c1, c2, c3⟩ := row2w hC
        obtain ⟨q0, q1, q2, q3⟩ := row2w hR
        go_wp2
        exact bodyPost_ret (results_ctW rfl _ _ (w.heap.size + 1) #[.int .i64 (s + n), .int .i64 (r)] rfl (load_fw (set2W _ _ hR))) rfl ⟨rfl, belW1 (belW1 hB (by omega) _) (by omega) _⟩
      · rw [flMore_no (fun h => hl h.2.2)] at hX
        unfold zFw at hX
        cases hX
        have hok2 : flOk ⟨s + n, r⟩ = false := flOk_no.2 (fun h => by dsimp only at h; omega)
        clear hl ho hn
        go_upto_region 4 with (go_at_call 36; refine (hnn _).mono ?_; rintro e VV ⟨rfl, rfl⟩)
        have hOfV : ∀ w', Below VV.heap.size VV w' → FbS w VV s r 1 (.func (.func 38) #[] #[]) w' := fun w' hb => ⟨keepW hb p0, keepW hb p1, keepW hb c0, hb⟩
        have hkeepV : ∀ w1 w2 : World, Below w1.heap.size w1 w2 → FbS w VV s r 1 (.func (.func 38) #[] #[]) w1 → FbS w VV s r 1 (.func (.func 38) #[] #[]) w2 := fun w1 w2 hb h => hOfV _ (btF h.2.2.2 hb)
        have hV0 := hOfV VV (Below.refl _ _)
        clear p0 p1 p2 p3 c0 hnn
        go_cut [9] from 20 to 25 (fun s9 wx => ∃ b, s9 = .pointer (some ⟨b, 0, none⟩) ∧ wx.heap[b]? = some (.cells #[.int .i64 (s + n), .int .i64 (r)] 24 (0, 0)) ∧ Below VV.heap.size VV wx)
        case first =>
          go_region_held3 (fun w' => w'.cell? ⟨w.heap.size, 0, none⟩ = some (.int .i64 s) ∧ w'.cell? ⟨w.heap.size, 1, none⟩ = some (.int .i64 r) ∧ w'.cell? ⟨w.heap.size + 2, 1, none⟩ = some (.func (.func 38) #[] #[]) ∧ Below VV.heap.size VV w') ((first | assumption | exact hkeepV _ _ ((Below.refl _ _).drew) hV0 | exact hkeepV _ _ ((Below.refl _ _).alloc (Nat.le_refl _) _) (by assumption) | exact hkeepV _ _ hb3 (by assumption) | exact hOfV _ ((hE3.setCell (p := ⟨_, 0, none⟩) hLb _).setCell (p := ⟨_, 1, none⟩) hLb _) | exact hOfV _ (hE3.alloc hE3.size _))) ((go_at_call 38; refine (hm _).mono ?_; rintro e w3 ⟨rfl, hb3⟩; have hE3 := btF ((by assumption : FbS w VV s r 1 (.func (.func 38) #[] #[]) _).2.2.2) hb3; (first | (have hL3 : w3.heap[VV.heap.size]? = some (.cells #[.int .i64 0, .int .i64 0] 24 (0, 0)) := blkF hb3 (heap_alloc_last VV.drew (.cells #[.int .i64 0, .int .i64 0] 24)); have hLb : VV.heap.size ≤ VV.heap.size := Nat.le_refl _; obtain ⟨l0, l1, q0, q1⟩ := row2w hL3) | skip)))
          all_goals
            first
              | (have hL4 : w3.heap[VV.heap.size]? = some (.cells #[.int .i64 0, .int .i64 0] 24 (0, 0)) := hL3
                 have hL6 := set2W (.int .i64 (s + n)) (.int .i64 (r)) hL4
                 have hE6 := (hE3.setCell (p := ⟨VV.heap.size, 0, none⟩) hLb (.int .i64 (s + n))).setCell (p := ⟨VV.heap.size, 1, none⟩) hLb (.int .i64 (r))
                 go_wp2_with fail
                 go_meet
                 exact ⟨_, rfl, hL6, hE6⟩)
              | (have hL6 := heap_alloc_last w3 (.cells #[.int .i64 (s + n), .int .i64 (r)] 24)
                 have hE6 := hE3.alloc hE3.size (.cells #[.int .i64 (s + n), .int .i64 (r)] 24)
                 go_wp2_with fail
                 go_meet
                 exact ⟨_, rfl, hL6, hE6⟩)
        case rest =>
        obtain ⟨b, rfl, hC, hcV⟩ := hcut
        replace hR := blkF hcV hR
        replace hB := btF hB hcV
        clear hcV hV0 hkeepV hOfV
        obtain ⟨c0, c1, c2, c3⟩ := row2w hC
        go_wp2_with fail
        have hok3 := hok (s + n) (r) wc
        rw [hok2] at hok3
        refine hok3.mono ?_
        clear hok hok3
        rintro e w4 ⟨rfl, hb⟩
        replace hR := blkF hb hR
        replace hC := blkF hb hC
        replace hB := btF hB hb
        clear hb c0 c1 c2 c3
        obtain ⟨c0, c1, c2, c3⟩ := row2w hC
        obtain ⟨q0, q1, q2, q3⟩ := row2w hR
        go_wp2
        exact bodyPost_ret (results_ctW rfl _ _ (w.heap.size + 1) #[.int .i64 0, .int .i64 0] rfl (load_fw (set2W _ _ hR))) rfl ⟨rfl, belW1 (belW1 hB (by omega) _) (by omega) _⟩
    · have hnn := fun w => numOk_no n w hn
      rw [flMore_no (fun h => hn ⟨by omega, by dsimp only at h; omega⟩)] at hX
      unfold zFw at hX
      cases hX
      obtain ⟨q0, q1, q2, q3⟩ := row2w hR
      go_wp2_with (go_at_call 36; refine (hnn _).mono ?_; rintro e VV ⟨rfl, rfl⟩)
      exact bodyPost_ret (results_ctW rfl _ _ (w.heap.size + 1) #[.int .i64 0, .int .i64 0] rfl (load_fw (set2W _ _ hR))) rfl ⟨rfl, belW1 (belW1 hB (by omega) _) (by omega) _⟩

set_option maxRecDepth 100000 in
set_option maxHeartbeats 1000000 in
theorem behindGot (f : Fw) (n : Int) (w : World) :
    Calls Try.prog 35 #[f.val, .int .i64 2, .int .i64 n] w fun e w' => e = .returned (.tuple #[(flGot f n).1.val, .bool (flGot f n).2]) ∧ Below w.heap.size w w' := by
  obtain ⟨s, r⟩ := f
  have hok := fun x y w => implFlowOk ⟨x, y⟩ w
  unfold Fw.val at hok ⊢
  have hA : Below w.heap.size w (w.alloc (.cells #[.int .i64 s, .int .i64 r] 24)) := (Below.refl _ _).alloc (Nat.le_refl _) _
  have hB : Below w.heap.size w ((w.alloc (.cells #[.int .i64 s, .int .i64 r] 24)).alloc (.cells #[.int .i64 0, .int .i64 0] 24)) := hA.alloc (by rw [World.size_alloc]; omega) _
  have hF : ((w.alloc (.cells #[.int .i64 s, .int .i64 r] 24)).alloc (.cells #[.int .i64 0, .int .i64 0] 24)).heap[w.heap.size]? = some (.cells #[.int .i64 s, .int .i64 r] 24 (0, 0)) := blkF ((Below.refl _ _).alloc (Nat.le_refl _) _) (heap_alloc_last w _)
  have hR : ((w.alloc (.cells #[.int .i64 s, .int .i64 r] 24)).alloc (.cells #[.int .i64 0, .int .i64 0] 24)).heap[w.heap.size + 1]? = some (.cells #[.int .i64 0, .int .i64 0] 24 (0, 0)) := by
    have h := heap_alloc_last (w.alloc (.cells #[.int .i64 s, .int .i64 r] 24)) (.cells #[.int .i64 0, .int .i64 0] 24)
    rw [World.size_alloc] at h
    exact h
  have hZ : ((w.alloc (.cells #[.int .i64 s, .int .i64 r] 24)).alloc (.cells #[.int .i64 0, .int .i64 0] 24)).heap.size = w.heap.size + 2 := by rw [World.size_alloc, World.size_alloc]
  obtain ⟨⟨⟨gx, gy⟩, gc⟩, hX⟩ : ∃ A, flGot ⟨s, r⟩ n = A := ⟨_, rfl⟩
  rw [hX]
  dsimp only at hok ⊢
  go_enter Try.func35, Try.ntmps35
  go_upto_region 1 with fail
  refine wabsW (fun V => V.heap[w.heap.size]? = some (.cells #[.int .i64 s, .int .i64 r] 24 (0, 0)) ∧ V.heap[w.heap.size + 1]? = some (.cells #[.int .i64 0, .int .i64 0] 24 (0, 0)) ∧ V.heap.size = w.heap.size + 2 ∧ Below w.heap.size w V) ⟨hF, hR, hZ, hB⟩ ?_
  clear hF hR hB hZ
  rintro V ⟨hF, hR, hZ, hB⟩
  have HN0 : Hid ((V.alloc (.cells #[.nilFunc, .nilFunc, .nilFunc, .nilFunc] 51)).heap[w.heap.size + 2]? = some (.cells #[.nilFunc, .nilFunc, .nilFunc, .nilFunc] 51 (0, 0))) := by have h := heap_alloc_last V (.cells #[.nilFunc, .nilFunc, .nilFunc, .nilFunc] 51); rw [hZ] at h; exact h
  have HNS : Hid ((V.alloc (.cells #[.nilFunc, .nilFunc, .nilFunc, .nilFunc] 51)).setRow (w.heap.size + 2) FnsV = V.alloc (.cells FnsV 51)) := by have h := World.setRow_alloc_new V #[.nilFunc, .nilFunc, .nilFunc, .nilFunc] FnsV 51; rw [hZ] at h; exact h
  have hN1 : (V.alloc (.cells FnsV 51)).heap[w.heap.size + 2]? = some (.cells FnsV 51 (0, 0)) := by have h := heap_alloc_last V (.cells FnsV 51); rw [hZ] at h; exact h
  have hB1 : Below w.heap.size w (V.alloc (.cells FnsV 51)) := hB.alloc (by omega) _
  have hF1 := blkF ((Below.refl _ V).alloc (Nat.le_refl _) (.cells FnsV 51)) hF
  have hR1 := blkF ((Below.refl _ V).alloc (Nat.le_refl _) (.cells FnsV 51)) hR
  go_upto_region 2 with (refine wpList_store_row rfl 51 _ _ rfl (w.heap.size + 2) FnsV rfl rfl 51 _ HN0.out infoFn4 rfl (by simp [FnsV, Value.oneCell']) ?_; rw [HNS.out])
  clear HN0 HNS
  refine wabsW (fun V => V.heap[w.heap.size]? = some (.cells #[.int .i64 s, .int .i64 r] 24 (0, 0)) ∧ V.heap[w.heap.size + 1]? = some (.cells #[.int .i64 0, .int .i64 0] 24 (0, 0)) ∧ V.heap[w.heap.size + 2]? = some (.cells FnsV 51 (0, 0)) ∧ Below w.heap.size w V) ⟨hF1, hR1, hN1, hB1⟩ ?_
  clear hF1 hR1 hN1 hB1 hZ hF hR hB V hA
  rintro V ⟨hF, hR, hN, hB⟩
  obtain ⟨p0, p1, p2, p3⟩ := row2w hF
  go_wp2_with fail
  refine (hok _ _ _).mono ?_
  rintro e VV ⟨rfl, hb⟩
  replace hF := blkF hb hF
  replace hR := blkF hb hR
  replace hN := blkF hb hN
  replace hB := btF hB hb
  clear hb p0 p1 p2 p3
  obtain ⟨p0, p1, p2, p3⟩ := row2w hF
  cases ho : flOk ⟨s, r⟩ with
  | false =>
    rw [flGot_no (by rw [ho]; simp)] at hX
    unfold zFw at hX
    cases hX
    obtain ⟨q0, q1, q2, q3⟩ := row2w hR
    go_wp2
    exact bodyPost_ret (results_ctW rfl _ _ (w.heap.size + 1) #[.int .i64 0, .int .i64 0] rfl (load_fw (set2W _ _ hR))) rfl ⟨rfl, belW1 (belW1 hB (by omega) _) (by omega) _⟩
  | true =>
    have hbd := flOk_iff.1 ho
    dsimp only at hbd
    obtain ⟨⟨hs0, hs1⟩, hr0, hr1⟩ := hbd
    have c0 : VV.cell? ⟨w.heap.size + 2, 2, none⟩ = some (.func (.func 39) #[] #[]) := by simp [World.cell?, hN]
    clear hN
    by_cases hn : 0 ≤ n ∧ n ≤ 31
    · have hnn := fun w => numOk_yes n w hn
      have hm := fun w => flow_got s r n w ⟨hs0, hs1⟩ ⟨hr0, hr1⟩ hn
      by_cases hl : n ≤ r
      · rw [flGot_yes ho (by omega) hl] at hX
        cases hX
        have hok2 : flOk ⟨s, r - n⟩ = true := flOk_iff.2 ⟨⟨by dsimp only; omega, by dsimp only; omega⟩, by dsimp only; omega, by dsimp only; omega⟩
        clear hl ho hn
        go_upto_region 4 with (go_at_call 36; refine (hnn _).mono ?_; rintro e VV ⟨rfl, rfl⟩)
        have hOfV : ∀ w', Below VV.heap.size VV w' → FbS w VV s r 2 (.func (.func 39) #[] #[]) w' := fun w' hb => ⟨keepW hb p0, keepW hb p1, keepW hb c0, hb⟩
        have hkeepV : ∀ w1 w2 : World, Below w1.heap.size w1 w2 → FbS w VV s r 2 (.func (.func 39) #[] #[]) w1 → FbS w VV s r 2 (.func (.func 39) #[] #[]) w2 := fun w1 w2 hb h => hOfV _ (btF h.2.2.2 hb)
        have hV0 := hOfV VV (Below.refl _ _)
        clear p0 p1 p2 p3 c0 hnn
        go_cut [9] from 20 to 25 (fun s9 wx => ∃ b, s9 = .pointer (some ⟨b, 0, none⟩) ∧ wx.heap[b]? = some (.cells #[.int .i64 (s), .int .i64 (r - n)] 24 (0, 0)) ∧ Below VV.heap.size VV wx)
        case first =>
          go_region_held3 (fun w' => w'.cell? ⟨w.heap.size, 0, none⟩ = some (.int .i64 s) ∧ w'.cell? ⟨w.heap.size, 1, none⟩ = some (.int .i64 r) ∧ w'.cell? ⟨w.heap.size + 2, 2, none⟩ = some (.func (.func 39) #[] #[]) ∧ Below VV.heap.size VV w') ((first | assumption | exact hkeepV _ _ ((Below.refl _ _).drew) hV0 | exact hkeepV _ _ ((Below.refl _ _).alloc (Nat.le_refl _) _) (by assumption) | exact hkeepV _ _ hb3 (by assumption) | exact hOfV _ ((hE3.setCell (p := ⟨_, 0, none⟩) hLb _).setCell (p := ⟨_, 1, none⟩) hLb _) | exact hOfV _ (hE3.alloc hE3.size _))) ((go_at_call 39; refine (hm _).mono ?_; rintro e w3 ⟨rfl, hb3⟩; have hE3 := btF ((by assumption : FbS w VV s r 2 (.func (.func 39) #[] #[]) _).2.2.2) hb3; (first | (have hL3 : w3.heap[VV.heap.size]? = some (.cells #[.int .i64 0, .int .i64 0] 24 (0, 0)) := blkF hb3 (heap_alloc_last VV.drew (.cells #[.int .i64 0, .int .i64 0] 24)); have hLb : VV.heap.size ≤ VV.heap.size := Nat.le_refl _; obtain ⟨l0, l1, q0, q1⟩ := row2w hL3) | skip)))
          all_goals
            first
              | (have hL4 : w3.heap[VV.heap.size]? = some (.cells #[.int .i64 0, .int .i64 0] 24 (0, 0)) := hL3
                 have hL6 := set2W (.int .i64 (s)) (.int .i64 (r - n)) hL4
                 have hE6 := (hE3.setCell (p := ⟨VV.heap.size, 0, none⟩) hLb (.int .i64 (s))).setCell (p := ⟨VV.heap.size, 1, none⟩) hLb (.int .i64 (r - n))
                 go_wp2_with fail
                 go_meet
                 exact ⟨_, rfl, hL6, hE6⟩)
              | (have hL6 := heap_alloc_last w3 (.cells #[.int .i64 (s), .int .i64 (r - n)] 24)
                 have hE6 := hE3.alloc hE3.size (.cells #[.int .i64 (s), .int .i64 (r - n)] 24)
                 go_wp2_with fail
                 go_meet
                 exact ⟨_, rfl, hL6, hE6⟩)
        case rest =>
        obtain ⟨b, rfl, hC, hcV⟩ := hcut
        replace hR := blkF hcV hR
        replace hB := btF hB hcV
        clear hcV hV0 hkeepV hOfV
        obtain ⟨c0, c1, c2, c3⟩ := row2w hC
        go_wp2_with fail
        have hok3 := hok (s) (r - n) wc
        rw [hok2] at hok3
        refine hok3.mono ?_
        clear hok hok3
        rintro e w4 ⟨rfl, hb⟩
        replace hR := blkF hb hR
        replace hC := blkF hb hC
        replace hB := btF hB hb
        clear hb c0 c1 c2 c3
        obtain ⟨c0, c1, c2, c3⟩ := row2w hC
        obtain ⟨q0, q1, q2, q3⟩ := row2w hR
        go_wp2
        exact bodyPost_ret (results_ctW rfl _ _ (w.heap.size + 1) #[.int .i64 (s), .int .i64 (r - n)] rfl (load_fw (set2W _ _ hR))) rfl ⟨rfl, belW1 (belW1 hB (by omega) _) (by omega) _⟩
      · rw [flGot_no (fun h => hl h.2.2)] at hX
        unfold zFw at hX
        cases hX
        have hok2 : flOk ⟨s, r - n⟩ = false := flOk_no.2 (fun h => by dsimp only at h; omega)
        clear hl ho hn
        go_upto_region 4 with (go_at_call 36; refine (hnn _).mono ?_; rintro e VV ⟨rfl, rfl⟩)
        have hOfV : ∀ w', Below VV.heap.size VV w' → FbS w VV s r 2 (.func (.func 39) #[] #[]) w' := fun w' hb => ⟨keepW hb p0, keepW hb p1, keepW hb c0, hb⟩
        have hkeepV : ∀ w1 w2 : World, Below w1.heap.size w1 w2 → FbS w VV s r 2 (.func (.func 39) #[] #[]) w1 → FbS w VV s r 2 (.func (.func 39) #[] #[]) w2 := fun w1 w2 hb h => hOfV _ (btF h.2.2.2 hb)
        have hV0 := hOfV VV (Below.refl _ _)
        clear p0 p1 p2 p3 c0 hnn
        go_cut [9] from 20 to 25 (fun s9 wx => ∃ b, s9 = .pointer (some ⟨b, 0, none⟩) ∧ wx.heap[b]? = some (.cells #[.int .i64 (s), .int .i64 (r - n)] 24 (0, 0)) ∧ Below VV.heap.size VV wx)
        case first =>
          go_region_held3 (fun w' => w'.cell? ⟨w.heap.size, 0, none⟩ = some (.int .i64 s) ∧ w'.cell? ⟨w.heap.size, 1, none⟩ = some (.int .i64 r) ∧ w'.cell? ⟨w.heap.size + 2, 2, none⟩ = some (.func (.func 39) #[] #[]) ∧ Below VV.heap.size VV w') ((first | assumption | exact hkeepV _ _ ((Below.refl _ _).drew) hV0 | exact hkeepV _ _ ((Below.refl _ _).alloc (Nat.le_refl _) _) (by assumption) | exact hkeepV _ _ hb3 (by assumption) | exact hOfV _ ((hE3.setCell (p := ⟨_, 0, none⟩) hLb _).setCell (p := ⟨_, 1, none⟩) hLb _) | exact hOfV _ (hE3.alloc hE3.size _))) ((go_at_call 39; refine (hm _).mono ?_; rintro e w3 ⟨rfl, hb3⟩; have hE3 := btF ((by assumption : FbS w VV s r 2 (.func (.func 39) #[] #[]) _).2.2.2) hb3; (first | (have hL3 : w3.heap[VV.heap.size]? = some (.cells #[.int .i64 0, .int .i64 0] 24 (0, 0)) := blkF hb3 (heap_alloc_last VV.drew (.cells #[.int .i64 0, .int .i64 0] 24)); have hLb : VV.heap.size ≤ VV.heap.size := Nat.le_refl _; obtain ⟨l0, l1, q0, q1⟩ := row2w hL3) | skip)))
          all_goals
            first
              | (have hL4 : w3.heap[VV.heap.size]? = some (.cells #[.int .i64 0, .int .i64 0] 24 (0, 0)) := hL3
                 have hL6 := set2W (.int .i64 (s)) (.int .i64 (r - n)) hL4
                 have hE6 := (hE3.setCell (p := ⟨VV.heap.size, 0, none⟩) hLb (.int .i64 (s))).setCell (p := ⟨VV.heap.size, 1, none⟩) hLb (.int .i64 (r - n))
                 go_wp2_with fail
                 go_meet
                 exact ⟨_, rfl, hL6, hE6⟩)
              | (have hL6 := heap_alloc_last w3 (.cells #[.int .i64 (s), .int .i64 (r - n)] 24)
                 have hE6 := hE3.alloc hE3.size (.cells #[.int .i64 (s), .int .i64 (r - n)] 24)
                 go_wp2_with fail
                 go_meet
                 exact ⟨_, rfl, hL6, hE6⟩)
        case rest =>
        obtain ⟨b, rfl, hC, hcV⟩ := hcut
        replace hR := blkF hcV hR
        replace hB := btF hB hcV
        clear hcV hV0 hkeepV hOfV
        obtain ⟨c0, c1, c2, c3⟩ := row2w hC
        go_wp2_with fail
        have hok3 := hok (s) (r - n) wc
        rw [hok2] at hok3
        refine hok3.mono ?_
        clear hok hok3
        rintro e w4 ⟨rfl, hb⟩
        replace hR := blkF hb hR
        replace hC := blkF hb hC
        replace hB := btF hB hb
        clear hb c0 c1 c2 c3
        obtain ⟨c0, c1, c2, c3⟩ := row2w hC
        obtain ⟨q0, q1, q2, q3⟩ := row2w hR
        go_wp2
        exact bodyPost_ret (results_ctW rfl _ _ (w.heap.size + 1) #[.int .i64 0, .int .i64 0] rfl (load_fw (set2W _ _ hR))) rfl ⟨rfl, belW1 (belW1 hB (by omega) _) (by omega) _⟩
    · have hnn := fun w => numOk_no n w hn
      rw [flGot_no (fun h => hn ⟨h.2.1, by dsimp only at h; omega⟩)] at hX
      unfold zFw at hX
      cases hX
      obtain ⟨q0, q1, q2, q3⟩ := row2w hR
      go_wp2_with (go_at_call 36; refine (hnn _).mono ?_; rintro e VV ⟨rfl, rfl⟩)
      exact bodyPost_ret (results_ctW rfl _ _ (w.heap.size + 1) #[.int .i64 0, .int .i64 0] rfl (load_fw (set2W _ _ hR))) rfl ⟨rfl, belW1 (belW1 hB (by omega) _) (by omega) _⟩

set_option maxRecDepth 100000 in
set_option maxHeartbeats 1000000 in
theorem behindGive (f : Fw) (n : Int) (w : World) :
    Calls Try.prog 35 #[f.val, .int .i64 3, .int .i64 n] w fun e w' => e = .returned (.tuple #[(flGive f n).1.val, .bool (flOk f && decide (0 ≤ n ∧ n ≤ 31))]) ∧ Below w.heap.size w w' := by
  obtain ⟨s, r⟩ := f
  have hok := fun x y w => implFlowOk ⟨x, y⟩ w
  unfold Fw.val at hok ⊢
  have hA : Below w.heap.size w (w.alloc (.cells #[.int .i64 s, .int .i64 r] 24)) := (Below.refl _ _).alloc (Nat.le_refl _) _
  have hB : Below w.heap.size w ((w.alloc (.cells #[.int .i64 s, .int .i64 r] 24)).alloc (.cells #[.int .i64 0, .int .i64 0] 24)) := hA.alloc (by rw [World.size_alloc]; omega) _
  have hF : ((w.alloc (.cells #[.int .i64 s, .int .i64 r] 24)).alloc (.cells #[.int .i64 0, .int .i64 0] 24)).heap[w.heap.size]? = some (.cells #[.int .i64 s, .int .i64 r] 24 (0, 0)) := blkF ((Below.refl _ _).alloc (Nat.le_refl _) _) (heap_alloc_last w _)
  have hR : ((w.alloc (.cells #[.int .i64 s, .int .i64 r] 24)).alloc (.cells #[.int .i64 0, .int .i64 0] 24)).heap[w.heap.size + 1]? = some (.cells #[.int .i64 0, .int .i64 0] 24 (0, 0)) := by
    have h := heap_alloc_last (w.alloc (.cells #[.int .i64 s, .int .i64 r] 24)) (.cells #[.int .i64 0, .int .i64 0] 24)
    rw [World.size_alloc] at h
    exact h
  have hZ : ((w.alloc (.cells #[.int .i64 s, .int .i64 r] 24)).alloc (.cells #[.int .i64 0, .int .i64 0] 24)).heap.size = w.heap.size + 2 := by rw [World.size_alloc, World.size_alloc]
  obtain ⟨⟨⟨gx, gy⟩, gc⟩, hX⟩ : ∃ A, flGive ⟨s, r⟩ n = A := ⟨_, rfl⟩
  rw [hX]
  obtain ⟨gb, hgb⟩ : ∃ gb, (flOk ⟨s, r⟩ && decide (0 ≤ n ∧ n ≤ 31)) = gb := ⟨_, rfl⟩
  rw [hgb]
  dsimp only at hok ⊢
  go_enter Try.func35, Try.ntmps35
  go_upto_region 1 with fail
  refine wabsW (fun V => V.heap[w.heap.size]? = some (.cells #[.int .i64 s, .int .i64 r] 24 (0, 0)) ∧ V.heap[w.heap.size + 1]? = some (.cells #[.int .i64 0, .int .i64 0] 24 (0, 0)) ∧ V.heap.size = w.heap.size + 2 ∧ Below w.heap.size w V) ⟨hF, hR, hZ, hB⟩ ?_
  clear hF hR hB hZ
  rintro V ⟨hF, hR, hZ, hB⟩
  have HN0 : Hid ((V.alloc (.cells #[.nilFunc, .nilFunc, .nilFunc, .nilFunc] 51)).heap[w.heap.size + 2]? = some (.cells #[.nilFunc, .nilFunc, .nilFunc, .nilFunc] 51 (0, 0))) := by have h := heap_alloc_last V (.cells #[.nilFunc, .nilFunc, .nilFunc, .nilFunc] 51); rw [hZ] at h; exact h
  have HNS : Hid ((V.alloc (.cells #[.nilFunc, .nilFunc, .nilFunc, .nilFunc] 51)).setRow (w.heap.size + 2) FnsV = V.alloc (.cells FnsV 51)) := by have h := World.setRow_alloc_new V #[.nilFunc, .nilFunc, .nilFunc, .nilFunc] FnsV 51; rw [hZ] at h; exact h
  have hN1 : (V.alloc (.cells FnsV 51)).heap[w.heap.size + 2]? = some (.cells FnsV 51 (0, 0)) := by have h := heap_alloc_last V (.cells FnsV 51); rw [hZ] at h; exact h
  have hB1 : Below w.heap.size w (V.alloc (.cells FnsV 51)) := hB.alloc (by omega) _
  have hF1 := blkF ((Below.refl _ V).alloc (Nat.le_refl _) (.cells FnsV 51)) hF
  have hR1 := blkF ((Below.refl _ V).alloc (Nat.le_refl _) (.cells FnsV 51)) hR
  go_upto_region 2 with (refine wpList_store_row rfl 51 _ _ rfl (w.heap.size + 2) FnsV rfl rfl 51 _ HN0.out infoFn4 rfl (by simp [FnsV, Value.oneCell']) ?_; rw [HNS.out])
  clear HN0 HNS
  refine wabsW (fun V => V.heap[w.heap.size]? = some (.cells #[.int .i64 s, .int .i64 r] 24 (0, 0)) ∧ V.heap[w.heap.size + 1]? = some (.cells #[.int .i64 0, .int .i64 0] 24 (0, 0)) ∧ V.heap[w.heap.size + 2]? = some (.cells FnsV 51 (0, 0)) ∧ Below w.heap.size w V) ⟨hF1, hR1, hN1, hB1⟩ ?_
  clear hF1 hR1 hN1 hB1 hZ hF hR hB V hA
  rintro V ⟨hF, hR, hN, hB⟩
  obtain ⟨p0, p1, p2, p3⟩ := row2w hF
  go_wp2_with fail
  refine (hok _ _ _).mono ?_
  rintro e VV ⟨rfl, hb⟩
  replace hF := blkF hb hF
  replace hR := blkF hb hR
  replace hN := blkF hb hN
  replace hB := btF hB hb
  clear hb p0 p1 p2 p3
  obtain ⟨p0, p1, p2, p3⟩ := row2w hF
  cases ho : flOk ⟨s, r⟩ with
  | false =>
    rw [flGive_no (by rw [ho]; simp)] at hX
    unfold zFw at hX
    cases hX
    rw [ho, Bool.false_and] at hgb
    subst hgb
    obtain ⟨q0, q1, q2, q3⟩ := row2w hR
    go_wp2
    exact bodyPost_ret (results_ctW rfl _ _ (w.heap.size + 1) #[.int .i64 0, .int .i64 0] rfl (load_fw (set2W _ _ hR))) rfl ⟨rfl, belW1 (belW1 hB (by omega) _) (by omega) _⟩
  | true =>
    have hbd := flOk_iff.1 ho
    dsimp only at hbd
    obtain ⟨⟨hs0, hs1⟩, hr0, hr1⟩ := hbd
    have c0 : VV.cell? ⟨w.heap.size + 2, 3, none⟩ = some (.func (.func 40) #[] #[]) := by simp [World.cell?, hN]
    clear hN
    by_cases hn : 0 ≤ n ∧ n ≤ 31
    · have hnn := fun w => numOk_yes n w hn
      rw [ho, decide_eq_true hn, Bool.and_true] at hgb
      subst hgb
      by_cases hl : r < n
      · rw [flGive_less ho hn.1 hn.2 hl] at hX
        cases hX
        have hm := fun w => flow_given_lt s r n w ⟨hs0, hs1⟩ ⟨hr0, hr1⟩ hn hl
        have hok2 : flOk ⟨s, n⟩ = true := flOk_iff.2 ⟨⟨by dsimp only; omega, by dsimp only; omega⟩, by dsimp only; omega, by dsimp only; omega⟩
        clear hl ho hn
        go_upto_region 4 with (go_at_call 36; refine (hnn _).mono ?_; rintro e VV ⟨rfl, rfl⟩)
        have hOfV : ∀ w', Below VV.heap.size VV w' → FbS w VV s r 3 (.func (.func 40) #[] #[]) w' := fun w' hb => ⟨keepW hb p0, keepW hb p1, keepW hb c0, hb⟩
        have hkeepV : ∀ w1 w2 : World, Below w1.heap.size w1 w2 → FbS w VV s r 3 (.func (.func 40) #[] #[]) w1 → FbS w VV s r 3 (.func (.func 40) #[] #[]) w2 := fun w1 w2 hb h => hOfV _ (btF h.2.2.2 hb)
        have hV0 := hOfV VV (Below.refl _ _)
        clear p0 p1 p2 p3 c0 hnn
        go_cut [9] from 20 to 25 (fun s9 wx => ∃ b, s9 = .pointer (some ⟨b, 0, none⟩) ∧ wx.heap[b]? = some (.cells #[.int .i64 (s), .int .i64 (n)] 24 (0, 0)) ∧ Below VV.heap.size VV wx)
        case first =>
          go_region_held3 (fun w' => w'.cell? ⟨w.heap.size, 0, none⟩ = some (.int .i64 s) ∧ w'.cell? ⟨w.heap.size, 1, none⟩ = some (.int .i64 r) ∧ w'.cell? ⟨w.heap.size + 2, 3, none⟩ = some (.func (.func 40) #[] #[]) ∧ Below VV.heap.size VV w') ((first | assumption | exact hkeepV _ _ ((Below.refl _ _).drew) hV0 | exact hkeepV _ _ ((Below.refl _ _).alloc (Nat.le_refl _) _) (by assumption) | exact hkeepV _ _ hb3 (by assumption) | exact hOfV _ ((hE3.setCell (p := ⟨_, 0, none⟩) hLb _).setCell (p := ⟨_, 1, none⟩) hLb _) | exact hOfV _ (hE3.alloc hE3.size _))) ((go_at_call 40; refine (hm _).mono ?_; rintro e w3 ⟨rfl, hb3⟩; have hE3 := btF ((by assumption : FbS w VV s r 3 (.func (.func 40) #[] #[]) _).2.2.2) hb3; (first | (have hL3 : w3.heap[VV.heap.size]? = some (.cells #[.int .i64 0, .int .i64 0] 24 (0, 0)) := blkF hb3 (heap_alloc_last VV.drew (.cells #[.int .i64 0, .int .i64 0] 24)); have hLb : VV.heap.size ≤ VV.heap.size := Nat.le_refl _; obtain ⟨l0, l1, q0, q1⟩ := row2w hL3) | skip)))
          all_goals
            first
              | (have hL4 : w3.heap[VV.heap.size]? = some (.cells #[.int .i64 0, .int .i64 0] 24 (0, 0)) := hL3
                 have hL6 := set2W (.int .i64 (s)) (.int .i64 (n)) hL4
                 have hE6 := (hE3.setCell (p := ⟨VV.heap.size, 0, none⟩) hLb (.int .i64 (s))).setCell (p := ⟨VV.heap.size, 1, none⟩) hLb (.int .i64 (n))
                 go_wp2_with fail
                 go_meet
                 exact ⟨_, rfl, hL6, hE6⟩)
              | (have hL6 := heap_alloc_last w3 (.cells #[.int .i64 (s), .int .i64 (n)] 24)
                 have hE6 := hE3.alloc hE3.size (.cells #[.int .i64 (s), .int .i64 (n)] 24)
                 go_wp2_with fail
                 go_meet
                 exact ⟨_, rfl, hL6, hE6⟩)
        case rest =>
        obtain ⟨b, rfl, hC, hcV⟩ := hcut
        replace hR := blkF hcV hR
        replace hB := btF hB hcV
        clear hcV hV0 hkeepV hOfV
        obtain ⟨c0, c1, c2, c3⟩ := row2w hC
        go_wp2_with fail
        have hok3 := hok (s) (n) wc
        rw [hok2] at hok3
        refine hok3.mono ?_
        clear hok hok3
        rintro e w4 ⟨rfl, hb⟩
        replace hR := blkF hb hR
        replace hC := blkF hb hC
        replace hB := btF hB hb
        clear hb c0 c1 c2 c3
        obtain ⟨c0, c1, c2, c3⟩ := row2w hC
        obtain ⟨q0, q1, q2, q3⟩ := row2w hR
        go_wp2
        exact bodyPost_ret (results_ctW rfl _ _ (w.heap.size + 1) #[.int .i64 (s), .int .i64 (n)] rfl (load_fw (set2W _ _ hR))) rfl ⟨rfl, belW1 (belW1 hB (by omega) _) (by omega) _⟩
      · rw [flGive_same ho hn.1 hn.2 hl] at hX
        cases hX
        have hm := fun w => flow_given_ge s r n w ⟨hs0, hs1⟩ ⟨hr0, hr1⟩ hn hl
        have hok2 : flOk ⟨s, r⟩ = true := flOk_iff.2 ⟨⟨by dsimp only; omega, by dsimp only; omega⟩, by dsimp only; omega, by dsimp only; omega⟩
        clear hl ho hn
        go_upto_region 4 with (go_at_call 36; refine (hnn _).mono ?_; rintro e VV ⟨rfl, rfl⟩)
        have hOfV : ∀ w', Below VV.heap.size VV w' → FbS w VV s r 3 (.func (.func 40) #[] #[]) w' := fun w' hb => ⟨keepW hb p0, keepW hb p1, keepW hb c0, hb⟩
        have hkeepV : ∀ w1 w2 : World, Below w1.heap.size w1 w2 → FbS w VV s r 3 (.func (.func 40) #[] #[]) w1 → FbS w VV s r 3 (.func (.func 40) #[] #[]) w2 := fun w1 w2 hb h => hOfV _ (btF h.2.2.2 hb)
        have hV0 := hOfV VV (Below.refl _ _)
        clear p0 p1 p2 p3 c0 hnn
        go_cut [9] from 20 to 25 (fun s9 wx => ∃ b, s9 = .pointer (some ⟨b, 0, none⟩) ∧ wx.heap[b]? = some (.cells #[.int .i64 (s), .int .i64 (r)] 24 (0, 0)) ∧ Below VV.heap.size VV wx)
        case first =>
          go_region_held3 (fun w' => w'.cell? ⟨w.heap.size, 0, none⟩ = some (.int .i64 s) ∧ w'.cell? ⟨w.heap.size, 1, none⟩ = some (.int .i64 r) ∧ w'.cell? ⟨w.heap.size + 2, 3, none⟩ = some (.func (.func 40) #[] #[]) ∧ Below VV.heap.size VV w') ((first | assumption | exact hkeepV _ _ ((Below.refl _ _).drew) hV0 | exact hkeepV _ _ ((Below.refl _ _).alloc (Nat.le_refl _) _) (by assumption) | exact hkeepV _ _ hb3 (by assumption) | exact hOfV _ ((hE3.setCell (p := ⟨_, 0, none⟩) hLb _).setCell (p := ⟨_, 1, none⟩) hLb _) | exact hOfV _ (hE3.alloc hE3.size _))) ((go_at_call 40; refine (hm _).mono ?_; rintro e w3 ⟨rfl, hb3⟩; have hE3 := btF ((by assumption : FbS w VV s r 3 (.func (.func 40) #[] #[]) _).2.2.2) hb3; (first | (have hL3 : w3.heap[VV.heap.size]? = some (.cells #[.int .i64 0, .int .i64 0] 24 (0, 0)) := blkF hb3 (heap_alloc_last VV.drew (.cells #[.int .i64 0, .int .i64 0] 24)); have hLb : VV.heap.size ≤ VV.heap.size := Nat.le_refl _; obtain ⟨l0, l1, q0, q1⟩ := row2w hL3) | skip)))
          all_goals
            first
              | (have hL4 : w3.heap[VV.heap.size]? = some (.cells #[.int .i64 0, .int .i64 0] 24 (0, 0)) := hL3
                 have hL6 := set2W (.int .i64 (s)) (.int .i64 (r)) hL4
                 have hE6 := (hE3.setCell (p := ⟨VV.heap.size, 0, none⟩) hLb (.int .i64 (s))).setCell (p := ⟨VV.heap.size, 1, none⟩) hLb (.int .i64 (r))
                 go_wp2_with fail
                 go_meet
                 exact ⟨_, rfl, hL6, hE6⟩)
              | (have hL6 := heap_alloc_last w3 (.cells #[.int .i64 (s), .int .i64 (r)] 24)
                 have hE6 := hE3.alloc hE3.size (.cells #[.int .i64 (s), .int .i64 (r)] 24)
                 go_wp2_with fail
                 go_meet
                 exact ⟨_, rfl, hL6, hE6⟩)
        case rest =>
        obtain ⟨b, rfl, hC, hcV⟩ := hcut
        replace hR := blkF hcV hR
        replace hB := btF hB hcV
        clear hcV hV0 hkeepV hOfV
        obtain ⟨c0, c1, c2, c3⟩ := row2w hC
        go_wp2_with fail
        have hok3 := hok (s) (r) wc
        rw [hok2] at hok3
        refine hok3.mono ?_
        clear hok hok3
        rintro e w4 ⟨rfl, hb⟩
        replace hR := blkF hb hR
        replace hC := blkF hb hC
        replace hB := btF hB hb
        clear hb c0 c1 c2 c3
        obtain ⟨c0, c1, c2, c3⟩ := row2w hC
        obtain ⟨q0, q1, q2, q3⟩ := row2w hR
        go_wp2
        exact bodyPost_ret (results_ctW rfl _ _ (w.heap.size + 1) #[.int .i64 (s), .int .i64 (r)] rfl (load_fw (set2W _ _ hR))) rfl ⟨rfl, belW1 (belW1 hB (by omega) _) (by omega) _⟩
    · have hnn := fun w => numOk_no n w hn
      rw [decide_eq_false hn, Bool.and_false] at hgb
      subst hgb
      rw [flGive_no (fun h => hn h.2)] at hX
      unfold zFw at hX
      cases hX
      obtain ⟨q0, q1, q2, q3⟩ := row2w hR
      go_wp2_with (go_at_call 36; refine (hnn _).mono ?_; rintro e VV ⟨rfl, rfl⟩)
      exact bodyPost_ret (results_ctW rfl _ _ (w.heap.size + 1) #[.int .i64 0, .int .i64 0] rfl (load_fw (set2W _ _ hR))) rfl ⟨rfl, belW1 (belW1 hB (by omega) _) (by omega) _⟩

end Go.Proofs.Ytpgcmjbmkjnjnaa
