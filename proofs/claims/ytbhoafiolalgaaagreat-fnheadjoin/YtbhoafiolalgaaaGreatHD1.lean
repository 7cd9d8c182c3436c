import Derived.Test.YtbhoafiolalgaaaGreatHD0
namespace Go.Proofs.YtbhoafiolalgaaaGreat
open Go.RowKit
set_option linter.unusedVariables false

theorem fsSm_app1 {fs : List Fd} {x : Fd} (h : fsSm fs) (hx : x.n.size ≤ 20 ∧ x.v.size ≤ 20) : fsSm (fs ++ [x]) := by
  intro f hf
  rcases List.mem_append.1 hf with hf | hf
  · exact h f hf
  · rw [List.mem_singleton] at hf; subst hf; exact hx
theorem Fs_one3 (w : World) (f : Fd) : Fs (w.alloc (.cells #[.string f.n, .string f.v, .bool f.q] 52)) (some ⟨w.heap.size, 0, none⟩) 1 1 [f] :=
  own_Fs (base := w.heap.size) (own_one3 w w.heap.size 52 _ _ _ (Nat.le_refl _))

set_option maxRecDepth 100000 in
set_option maxHeartbeats 2000000 in
theorem l71Head_any (b N : Nat) (w0 w : World) (hst : St2 w0 w b N) (hN : N ≤ 500000) :
    Calls Tryz.prog 15 #[.pointer (some ⟨b, 0, none⟩)] w fun e w' => ∃ (fs : List Fd) (a : Option Addr) (cap : Nat), e = .returned (.slice a fs.length cap) ∧ fs.length ≤ 20 ∧ fsSm fs ∧ w'.ownsRow w.heap.size 52 3 (.slice a fs.length cap) fs.length (cellsF fs) ∧ St2 w0 w' b (N + 1000) := by
  have hlt := hst.lt
  have HST : Hid (St2 w0 w b N) := hst
  have hw0 := hst.kept.size
  go_enter Tryz.func15, Tryz.ntmps15
  go_wp2_with fail
  have o1 := own_zero3 w 52
  have s1 := hst.alloc (.cells #[] 52)
  refine (pick_st2 b N 6 _ _ s1.self (by omega) (by decide)).mono ?_
  rintro e w2 ⟨v2, rfl, v20, v21, k2, _⟩
  have hO2 := own_st2 o1 k2 hlt
  have s2 := s1.step k2
  have hz2 : w.heap.size ≤ w2.heap.size := by have := k2.kept.size; simp at this; omega
  clear k2 s1 o1 hst
  obtain ⟨m2, rfl⟩ : ∃ m : Nat, v2 = (m : Int) := ⟨v2.toNat, by omega⟩
  go_wp2_with fail
  go_loopw [3, 4] (fun hv nv wr => ∃ (m : Nat) (fs : List Fd) (a : Option Addr) (c : Nat), m + fs.length ≤ 5 ∧ nv = .int .i64 m ∧ hv = .slice a fs.length c ∧ fsSm fs ∧ wr.ownsRow w.heap.size 52 3 (.slice a fs.length c) fs.length (cellsF fs) ∧ St2 w0 wr b (N + 1 + 70 * fs.length) ∧ w.heap.size ≤ wr.heap.size) (fun _ nv _ => (intOf nv).toNat)
  case atStart => exact ⟨m2, [], _, 0, by simp; omega, rfl, rfl, (by intro f hf; cases hf), hO2, s2, hz2⟩
  case round =>
    clear hO2 s2
    obtain ⟨m, fs, a, c, hml, rfl, rfl, hsm, hO, hs, hz⟩ := hrel
    by_cases hm : 0 < m
    · have hm' : (0 : Int) < m := by omega
      go_wp2_with fail
      refine (l71Field_v b (N + 1 + 70 * fs.length) _ _ hs.self (by omega)).mono ?_
      rintro e w4 ⟨f, rfl, hfn, hfv, k4⟩
      have hO4 := own_st2 hO k4 hlt
      have s4 := hs.step k4
      have hz4 : w.heap.size ≤ w4.heap.size := by have := k4.kept.size; have := hz; omega
      clear hs k4 hO
      have HE : Hid ((w4.alloc (.cells #[.string f.n, .string f.v, .bool f.q] 52)).ownsRow w.heap.size 52 3 (.slice a fs.length c) fs.length (cellsF fs)) := hO4.alloc _
      have sE := s4.alloc (.cells #[.string f.n, .string f.v, .bool f.q] 52)
      go_wp2_with (at_builtin; refine wpList_appFs _ rfl _ _ rfl w.heap.size _ _ _ rfl HE.out (some ⟨w4.heap.size, 0, none⟩) 1 1 [f] rfl (Fs_one3 w4 f) (by omega) (by simp; omega) ?_; intro v9 w9 hown9 hgrow9)
      have s9 := sE.grownBy hgrow9 (fun q hq => by have h1 := (HE.out.lt q hq).1; omega)
      have hz9 : w.heap.size ≤ w9.heap.size := by have := hgrow9.size; simp at this; omega
      obtain ⟨a9, c9, rfl⟩ := own_formT hown9
      rw [← cellsF_append] at hown9
      have hl9 : (fs ++ [f]).length = fs.length + 1 := by simp
      rw [← hl9] at hown9 ⊢
      clear hgrow9 HE sE s4 hO4
      go_wp2
      go_roundw
      case rel => exact ⟨m - 1, fs ++ [f], a9, c9, by omega, by congr 1; omega, rfl, fsSm_app1 hsm ⟨hfn, hfv⟩, hown9, s9.more2 (by omega), hz9⟩
      case measure => simp [intOf]; omega
    · have hm' : (m : Int) ≤ 0 := by omega
      go_wp2_with fail
      refine (pick_st2 b (N + 1 + 70 * fs.length) 24 _ _ hs.self (by omega) (by decide)).mono ?_
      rintro e w4 ⟨v4, rfl, v40, v41, k4, _⟩
      have hO4 := own_st2 hO k4 hlt
      have s4 := hs.step k4
      have hz4 : w.heap.size ≤ w4.heap.size := by have := k4.kept.size; omega
      clear hs k4 hO
      by_cases e0 : (v4 == 0) = true
      · have hfl : fs.length ≤ 5 := by omega
        obtain ⟨M, hM⟩ : ∃ M, N + 1 + 70 * fs.length + 1 = M := ⟨_, rfl⟩
        rw [hM] at s4
        have hMb : M ≤ N + 400 := by omega
        clear hM
        go_wp2_with fail
        go_loopw [3] (fun hv wr => ∃ (gs : List Fd) (a : Option Addr) (c : Nat), gs.length ≤ 7 ∧ hv = .slice a gs.length c ∧ fsSm gs ∧ wr.ownsRow w.heap.size 52 3 (.slice a gs.length c) gs.length (cellsF gs) ∧ St2 w0 wr b M ∧ w.heap.size ≤ wr.heap.size) (fun hv _ => 10 - lenT hv)
        case atStart => exact ⟨fs, a, c, by omega, rfl, hsm, hO4, s4, hz4⟩
        case round =>
          clear hO4 s4
          obtain ⟨gs, a, c, hgl, rfl, hsm, hO, hs, hz⟩ := hrel
          by_cases hg : gs.length ≤ 6
          · have hg' : (gs.length : Int) ≤ 6 := by omega
            have HE : Hid ((wr.alloc (.cells #[.string ⟨#[116, 101]⟩, .string ⟨#[]⟩, .bool false] 52)).ownsRow w.heap.size 52 3 (.slice a gs.length c) gs.length (cellsF gs)) := hO.alloc _
            have sE := hs.alloc (.cells #[.string ⟨#[116, 101]⟩, .string ⟨#[]⟩, .bool false] 52)
            have hzr := hz
            go_wp2_with (at_builtin; refine wpList_appFs _ rfl _ _ rfl w.heap.size _ _ _ rfl HE.out (some ⟨wr.heap.size, 0, none⟩) 1 1 [⟨⟨#[116, 101]⟩, ⟨#[]⟩, false⟩] rfl (Fs_one3 wr ⟨⟨#[116, 101]⟩, ⟨#[]⟩, false⟩) (by omega) (by simp; omega) ?_; intro v9 w9 hown9 hgrow9)
            have s9 := sE.grownBy hgrow9 (fun q hq => by have h1 := (HE.out.lt q hq).1; omega)
            have hz9 : w.heap.size ≤ w9.heap.size := by have := hgrow9.size; simp at this; omega
            obtain ⟨a9, c9, rfl⟩ := own_formT hown9
            rw [← cellsF_append] at hown9
            have hl9 : (gs ++ [(⟨⟨#[116, 101]⟩, ⟨#[]⟩, false⟩ : Fd)]).length = gs.length + 1 := by simp
            rw [← hl9] at hown9 ⊢
            clear hgrow9 HE sE hO hs
            go_wp2
            go_roundw
            case rel => exact ⟨_, a9, c9, by omega, rfl, fsSm_app1 hsm ⟨by decide, by decide⟩, hown9, s9, hz9⟩
            case measure => simp [lenT]; omega
          · have hg' : (6 : Int) < gs.length := by omega
            go_wp2
            go_ret
            exact ⟨gs, a, c, rfl, by omega, hsm, hO, hs.more2 (by omega)⟩
      · have e0' : (v4 == 0) = false := by simpa using e0
        clear e0
        go_wp2
        go_ret
        exact ⟨fs, a, c, rfl, by omega, hsm, hO4, s4.more2 (by omega)⟩
end Go.Proofs.YtbhoafiolalgaaaGreat
