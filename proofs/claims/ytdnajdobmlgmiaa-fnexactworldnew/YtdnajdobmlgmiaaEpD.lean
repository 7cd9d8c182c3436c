import Derived.Test.YtdnajdobmlgmiaaCC
import Derived.Test.YtdnajdobmlgmiaaEdE1
namespace Go.Proofs.Ytdnajdobmlgmiaa
open Go.RowKit
set_option linter.unusedVariables false

set_option maxRecDepth 100000 in
set_option maxHeartbeats 4000000 in
theorem szStream_any (s : Sm) (ah ag : Option Addr) (nh ch ng cg : Nat) (left : Int) (w : World) (fh : FsA w ah nh ch s.head) (fg : FsA w ag ng cg s.got) (hs : s.say.size ≤ maxLen) (ht : s.text.size ≤ maxLen) (l0 : 0 ≤ left) (l1 : left ≤ 1048576) :
    Calls Try.prog 56 #[.agg (smC s (.slice ah nh ch) (.slice ag ng cg)).toArray, .int .i64 left] w fun e w' => ∃ r : Int, e = .returned (.int .i64 r) ∧ (r = -1 ∨ (0 ≤ r ∧ r ≤ left ∧ SmBd s)) ∧ Below w.heap.size w w' := by
  have S0 := (SB.start w).alloc (smC s (.slice ah nh ch) (.slice ag ng cg)).toArray 89
  have HS0 : Hid _ := S0
  have HFG : Hid _ := fg
  have lh := fh.len
  have lg := fg.len
  have HBD : Hid (s.say.size ≤ maxLen ∧ s.text.size ≤ maxLen ∧ s.head.length = nh ∧ s.got.length = ng) := ⟨hs, ht, lh, lg⟩
  have h1 := fun W (h : FsA W ah nh ch s.head) => szFieldS_any s.head ah nh ch left W h l0 l1
  have HFH : Hid _ := fh
  have h2 := fun (x : Int) W (h : FsA W ag ng cg s.got) (x0 : 0 ≤ x) (x1 : x ≤ 1048576) => szFieldS_any s.got ag ng cg x W h x0 x1
  obtain ⟨a, ha⟩ : ∃ a, s.say.size = a := ⟨_, rfl⟩
  obtain ⟨b, hb⟩ : ∃ b, s.text.size = b := ⟨_, rfl⟩
  rw [ha] at hs
  rw [hb] at ht
  have HA : Hid _ := ha
  have HB : Hid _ := hb
  unfold maxLen at hs ht
  clear S0 fh fg lh lg ha hb
  go_enter Try.func56, Try.ntmps56
  go_upto_region 1 with fail
  refine wabsW (fun V => SB w V [(w.heap.size, (smC s (.slice ah nh ch) (.slice ag ng cg)).toArray, 89)]) HS0.out ?_
  clear HS0
  rintro V S1
  have HS0 : Hid _ := S1
  clear S1
  have c2 := cellE (HS0.out.at 0 rfl) 2 (.slice ah nh ch) rfl
  go_upto_region 2 with (go_at_call 55; refine (h1 _ (HFH.out.below HS0.out.bel)).mono ?_; clear h1; rintro e w1 ⟨r1, rfl, hr1, hb1⟩)
  have HS1 : Hid _ := HS0.out.below hb1
  have HB1 : Hid _ := HS1.out.bel
  clear HS0 hb1 c2
  have c3 := cellE (HS1.out.at 0 rfl) 3 (.string s.say) rfl
  have c7 := cellE (HS1.out.at 0 rfl) 7 (.slice ag ng cg) rfl
  rcases hr1 with rfl | ⟨r0, r1l, rn, rbd⟩
  · clear h2
    go_wp2
    go_ret
    exact ⟨-1, rfl, .inl rfl, HB1.out⟩
  have HRB : Hid (fsBd s.head ∧ (nh : Int) ≤ left) := ⟨rbd, rn⟩
  clear rbd rn
  have d1 : decide (r1 < 0) = false := by rw [decide_eq_false_iff_not]; omega
  have hx := HA.out
  by_cases c1 : r1 - (a : Int) < 0
  · have dd1 : decide (r1 - (s.say.size : Int) < 0) = true := by rw [hx]; simpa using c1
    have w1' : IntKind.i64.wrap (r1 - (s.say.size : Int)) = r1 - (s.say.size : Int) := by rw [hx, IntKind.wrap_i64]; omega
    clear h2 hx
    go_wp2
    go_ret
    exact ⟨-1, rfl, .inl rfl, HB1.out⟩
  have dd1 : decide (r1 - (s.say.size : Int) < 0) = false := by rw [hx, decide_eq_false_iff_not]; exact c1
  have w1' : IntKind.i64.wrap (r1 - (s.say.size : Int)) = r1 - (s.say.size : Int) := by rw [hx, IntKind.wrap_i64]; omega
  have h3 := h2 (r1 - (s.say.size : Int)) w1 (HFG.out.below HB1.out) (by rw [hx]; omega) (by rw [hx]; omega)
  clear h2 hx
  go_upto_region 8 with (go_at_call 55; refine h3.mono ?_; clear h3; rintro e w2 ⟨r2, rfl, hr2, hb2⟩)
  have HS2 : Hid _ := HS1.out.below hb2
  have HB2 : Hid _ := HS2.out.bel
  clear HS1 hb2 c3 c7 HB1
  have c8 := cellE (HS2.out.at 0 rfl) 8 (.string s.text) rfl
  rcases hr2 with rfl | ⟨q0, q1, qn, qbd⟩
  · go_wp2
    go_ret
    exact ⟨-1, rfl, .inl rfl, HB2.out⟩
  have HQB : Hid (fsBd s.got ∧ (ng : Int) ≤ r1 - (s.say.size : Int) ∧ r2 ≤ r1 - (s.say.size : Int)) := ⟨qbd, qn, q1⟩
  clear qbd qn q1
  have hz := HQB.out.2.2
  have hx := HA.out
  have hy := HB.out
  rw [hx] at hz
  have d2 : decide (r2 < 0) = false := by rw [decide_eq_false_iff_not]; omega
  by_cases c2 : r2 - (b : Int) < 0
  · have dd2 : decide (r2 - (s.text.size : Int) < 0) = true := by rw [hy]; simpa using c2
    have w2' : IntKind.i64.wrap (r2 - (s.text.size : Int)) = r2 - (s.text.size : Int) := by rw [hy, IntKind.wrap_i64]; omega
    clear hx hy
    go_wp2
    go_ret
    exact ⟨-1, rfl, .inl rfl, HB2.out⟩
  have dd2 : decide (r2 - (s.text.size : Int) < 0) = false := by rw [hy, decide_eq_false_iff_not]; exact c2
  have w2' : IntKind.i64.wrap (r2 - (s.text.size : Int)) = r2 - (s.text.size : Int) := by rw [hy, IntKind.wrap_i64]; omega
  have HFIN : Hid (0 ≤ r2 - (s.text.size : Int) ∧ r2 - (s.text.size : Int) ≤ left ∧ SmBd s) := by
    obtain ⟨q1, q2, q3⟩ := HQB.out
    obtain ⟨p1, p2⟩ := HRB.out
    obtain ⟨b1, b2, b3, b4⟩ := HBD.out
    refine ⟨by rw [hy]; omega, by rw [hy]; omega, ⟨p1, by omega, q1, by rw [hx] at q2; omega, b1, b2⟩⟩
  clear hx hy
  go_wp2
  go_ret
  exact ⟨_, rfl, .inr HFIN.out, HB2.out⟩

set_option maxRecDepth 100000 in
set_option maxHeartbeats 4000000 in
theorem szStreamS_any (l : List Sm) (a : Option Addr) (n cap : Nat) (left : Int) (w : World) (hf : SsA w a n cap l) (l0 : 0 ≤ left) (l1 : left ≤ 1048576) :
    Calls Try.prog 35 #[.slice a n cap, .int .i64 left] w fun e w' => ∃ r : Int, e = .returned (.int .i64 r) ∧ (r = -1 ∨ (0 ≤ r ∧ r ≤ left ∧ (n : Int) ≤ left ∧ ∀ s ∈ l, SmBd s)) ∧ Below w.heap.size w w' := by
  have HF : Hid (SsA w a n cap l) := hf
  obtain rfl : l.length = n := hf.len
  have hnm := hf.nmax
  unfold maxLen at hnm
  clear hf
  by_cases c1 : left - (l.length : Int) < 0
  · have hd : decide (left - (l.length : Int) < 0) = true := by simpa using c1
    have hw : IntKind.i64.wrap (left - (l.length : Int)) = left - (l.length : Int) := by rw [IntKind.wrap_i64]; omega
    go_enter Try.func35, Try.ntmps35
    go_wp2
    go_ret
    exact ⟨-1, rfl, .inl rfl, Below.refl _ _⟩
  · have hd : decide (left - (l.length : Int) < 0) = false := by rw [decide_eq_false_iff_not]; exact c1
    have hw : IntKind.i64.wrap (left - (l.length : Int)) = left - (l.length : Int) := by rw [IntKind.wrap_i64]; omega
    have hn2 : (l.length : Int) ≤ 1048576 := by omega
    go_enter Try.func35, Try.ntmps35
    go_wp2
    go_loopw [1, 5] (fun lv i wr => ∃ (k : Nat) (r : Int), k ≤ l.length ∧ i = .int .i64 k ∧ lv = .int .i64 r ∧ 0 ≤ r ∧ r ≤ left ∧ (∀ s ∈ l.take k, SmBd s) ∧ Below w.heap.size w wr) (fun _ i _ => l.length - (intOf i).toNat)
    case atStart => exact ⟨0, left - l.length, by omega, rfl, rfl, by omega, by omega, (by intro f hf; simp at hf), Below.refl _ _⟩
    case round =>
      obtain ⟨k, r, hk, rfl, rfl, r0, r1, hbd, hbel⟩ := hrel
      have HBD : Hid (∀ s ∈ l.take k, SmBd s) := hbd
      have HBEL : Hid _ := hbel
      clear hbd
      by_cases hlt : k < l.length
      · have hlt' : (k : Int) < l.length := by omega
        have hk0 : (0 : Int) ≤ k := by omega
        obtain ⟨s, hff⟩ : ∃ s, l[k]? = some s := ⟨_, List.getElem?_eq_getElem hlt⟩
        have hst := HF.out.strs s (List.mem_of_getElem? hff)
        obtain ⟨g, o, ah, nh, ch, ag, ng, cg, rfl, hr, fh, fg⟩ := (HF.out.below hbel).at k s hff
        have HR : Hid _ := hr
        have HTK : Hid (l.take (k + 1) = l.take k ++ [s]) := by
          show _ = _
          rw [List.take_add_one, hff]
          rfl
        have hsz := szStream_any s ah ag nh ch ng cg r wr fh fg hst.1 hst.2 r0 (by omega)
        clear fh fg
        clear hff hr hst hbel
        go_upto_region 8 with (first | (refine wpList_load_mid rfl 89 _ rfl g (o + k * 12) rfl (smC s (.slice ah nh ch) (.slice ag ng cg)) _ HR.out Try.underlying89 rfl infoSmL ?_) | (go_at_call 56; refine hsz.mono ?_; clear hsz; rintro e w1 ⟨r2, rfl, hr2, hb1⟩))
        have HB1 : Hid _ := bt' HBEL.out hb1
        clear hb1
        rcases hr2 with rfl | ⟨p0, p1, p2⟩
        · go_wp2
          go_ret
          exact ⟨-1, rfl, .inl rfl, HB1.out⟩
        · have hd3 : decide (r2 < 0) = false := by rw [decide_eq_false_iff_not]; omega
          have HX : Hid (SmBd s) := p2
          clear p2
          go_wp2
          go_roundw
          case rel =>
            refine ⟨k + 1, r2, by omega, by go_num, rfl, by omega, by omega, ?_, HB1.out⟩
            rw [HTK.out]
            intro x hx
            rcases List.mem_append.1 hx with hx | hx
            · exact HBD.out x hx
            · simp at hx
              subst hx
              exact HX.out
          case measure => simp [intOf]; omega
      · have hall : l.take k = l := List.take_of_length_le (by omega)
        rw [hall] at HBD
        clear hall
        go_wp2
        go_ret
        exact ⟨r, rfl, .inr ⟨r0, r1, by omega, HBD.out⟩, hbel⟩

set_option maxRecDepth 100000 in
set_option maxHeartbeats 4000000 in
theorem szFrameS_any (l : List Fr) (a : Option Addr) (n cap : Nat) (left : Int) (w : World) (hf : FrA w a n cap l) (l0 : 0 ≤ left) (l1 : left ≤ 1048576) :
    Calls Try.prog 36 #[.slice a n cap, .int .i64 left] w fun e w' => ∃ r : Int, e = .returned (.int .i64 r) ∧ (r = -1 ∨ (0 ≤ r ∧ r ≤ left ∧ (n : Int) ≤ left ∧ ∀ s ∈ l, s.b.size ≤ 1048576)) ∧ Below w.heap.size w w' := by
  have HF : Hid (FrA w a n cap l) := hf
  obtain rfl : l.length = n := hf.len
  have hnm := hf.nmax
  unfold maxLen at hnm
  clear hf
  by_cases c1 : left - (l.length : Int) < 0
  · have hd : decide (left - (l.length : Int) < 0) = true := by simpa using c1
    have hw : IntKind.i64.wrap (left - (l.length : Int)) = left - (l.length : Int) := by rw [IntKind.wrap_i64]; omega
    go_enter Try.func36, Try.ntmps36
    go_wp2
    go_ret
    exact ⟨-1, rfl, .inl rfl, Below.refl _ _⟩
  · have hd : decide (left - (l.length : Int) < 0) = false := by rw [decide_eq_false_iff_not]; exact c1
    have hw : IntKind.i64.wrap (left - (l.length : Int)) = left - (l.length : Int) := by rw [IntKind.wrap_i64]; omega
    have hn2 : (l.length : Int) ≤ 1048576 := by omega
    go_enter Try.func36, Try.ntmps36
    go_wp2
    go_loopw [1, 5] (fun lv i wr => ∃ (k : Nat) (r : Int), k ≤ l.length ∧ i = .int .i64 k ∧ lv = .int .i64 r ∧ 0 ≤ r ∧ r ≤ left ∧ (∀ s ∈ l.take k, s.b.size ≤ 1048576) ∧ Below w.heap.size w wr) (fun _ i _ => l.length - (intOf i).toNat)
    case atStart => exact ⟨0, left - l.length, by omega, rfl, rfl, by omega, by omega, (by intro f hf; simp at hf), Below.refl _ _⟩
    case round =>
      obtain ⟨k, r, hk, rfl, rfl, r0, r1, hbd, hbel⟩ := hrel
      have HBD : Hid (∀ s ∈ l.take k, s.b.size ≤ 1048576) := hbd
      have HBEL : Hid _ := hbel
      clear hbd
      by_cases hlt : k < l.length
      · have hlt' : (k : Int) < l.length := by omega
        have hk0 : (0 : Int) ≤ k := by omega
        obtain ⟨s, hff⟩ : ∃ s, l[k]? = some s := ⟨_, List.getElem?_eq_getElem hlt⟩
        have hst := HF.out.strs s (List.mem_of_getElem? hff)
        obtain ⟨g, o, rfl, hr⟩ := (HF.out.below hbel).at k s hff
        have HR : Hid _ := hr
        have HTK : Hid (l.take (k + 1) = l.take k ++ [s]) := by
          show _ = _
          rw [List.take_add_one, hff]
          rfl
        have hsz := szFrame_any s r wr hst r0 (by omega)
        clear hff hr hst hbel
        go_upto_region 8 with (first | (refine wpList_load_mid rfl 91 _ rfl g (o + k * 4) rfl (frV4 s) _ HR.out Try.underlying91 rfl infoFrL ?_) | (go_at_call 57; refine hsz.mono ?_; clear hsz; rintro e w1 ⟨r2, rfl, hr2, hb1⟩))
        have HB1 : Hid _ := bt' HBEL.out hb1
        clear hb1
        rcases hr2 with rfl | ⟨p0, p1, p2⟩
        · go_wp2
          go_ret
          exact ⟨-1, rfl, .inl rfl, HB1.out⟩
        · have hd3 : decide (r2 < 0) = false := by rw [decide_eq_false_iff_not]; omega
          have HX : Hid (s.b.size ≤ 1048576) := by show s.b.size ≤ 1048576; omega
          
          go_wp2
          go_roundw
          case rel =>
            refine ⟨k + 1, r2, by omega, by go_num, rfl, by omega, by omega, ?_, HB1.out⟩
            rw [HTK.out]
            intro x hx
            rcases List.mem_append.1 hx with hx | hx
            · exact HBD.out x hx
            · simp at hx
              subst hx
              exact HX.out
          case measure => simp [intOf]; omega
      · have hall : l.take k = l := List.take_of_length_le (by omega)
        rw [hall] at HBD
        clear hall
        go_wp2
        go_ret
        exact ⟨r, rfl, .inr ⟨r0, r1, by omega, HBD.out⟩, hbel⟩

theorem EdLn.of {e : Ed} (h : EdBd e) : EdLn e := ⟨h.outn, h.innn, h.n, fun s hs => ⟨(h.sts s hs).hl, (h.sts s hs).gl⟩, h.m⟩
set_option maxRecDepth 100000 in
set_option maxHeartbeats 4000000 in
theorem szEnd_any (e : Ed) (o i s q : Value) (left : Int) (w : World) (ha : EdA w e o i s q) (l0 : 0 ≤ left) (l1 : left ≤ 1048576) :
    Calls Try.prog 19 #[.agg (edC e o i s q), .int .i64 left] w fun r w' => ∃ x : Int, r = .returned (.int .i64 x) ∧ (x = -1 ∨ (0 ≤ x ∧ x ≤ left ∧ EdBd e)) ∧ Below w.heap.size w w' := by
  obtain ⟨⟨ao, no, co, rfl, fo⟩, ⟨ai, ni, ci, rfl, fi⟩, ⟨aS, ns, cS, rfl, fs⟩, ⟨aw, nw, cw, rfl, fw⟩, hcm⟩ := ha
  obtain rfl : e.out.length = no := fo.len
  obtain rfl : e.inn.length = ni := fi.len
  obtain rfl : e.sts.length = ns := fs.len
  obtain rfl : e.wait.length = nw := fw.len
  have HFI : Hid (FsA w ai e.inn.length ci e.inn) := fi
  have HFS : Hid (SsA w aS e.sts.length cS e.sts) := fs
  have HFW : Hid (FrA w aw e.wait.length cw e.wait) := fw
  have S0 := (SB.start w).alloc (edC e (.slice ao e.out.length co) (.slice ai e.inn.length ci) (.slice aS e.sts.length cS) (.slice aw e.wait.length cw)) 44
  have HS0 : Hid _ := S0
  have h1 := fun W (h : FsA W ao e.out.length co e.out) => szTable_any e.out ao e.out.length co e.outM left W h l0 l1
  have HFO : Hid _ := fo
  have h2 := fun (x : Int) W (h : FsA W ai e.inn.length ci e.inn) (x0 : 0 ≤ x) (x1 : x ≤ 1048576) => szTable_any e.inn ai e.inn.length ci e.innM x W h x0 x1
  have h3 := fun (x : Int) W (h : SsA W aS e.sts.length cS e.sts) (x0 : 0 ≤ x) (x1 : x ≤ 1048576) => szStreamS_any e.sts aS e.sts.length cS x W h x0 x1
  have h4 := fun (x : Int) W (h : FrA W aw e.wait.length cw e.wait) (x0 : 0 ≤ x) (x1 : x ≤ 1048576) => szFrameS_any e.wait aw e.wait.length cw x W h x0 x1
  have HCM : Hid (e.came.size ≤ maxLen) := hcm
  have hx : e.came.size ≤ 9223372036854775807 := by unfold maxLen at hcm; omega
  clear S0 fo fi fs fw hcm
  have HH2 : Hid _ := h2
  have HH3 : Hid _ := h3
  have HH4 : Hid _ := h4
  clear h2 h3 h4
  go_enter Try.func19, Try.ntmps19
  go_upto_region 1 with fail
  refine wabsW (fun V => SB w V [(w.heap.size, (edC e (.slice ao e.out.length co) (.slice ai e.inn.length ci) (.slice aS e.sts.length cS) (.slice aw e.wait.length cw)), 44)]) HS0.out ?_
  clear HS0
  rintro V S1
  have HS0 : Hid _ := S1
  clear S1
  have c1 := cellE (HS0.out.at 0 rfl) 1 (.slice ao e.out.length co) rfl
  have c2 := cellE (HS0.out.at 0 rfl) 2 (.int .i64 e.outM) rfl
  go_upto_region 2 with (go_at_call 34; refine (h1 _ (HFO.out.below HS0.out.bel)).mono ?_; clear h1; rintro e w1 ⟨r1, rfl, hr1, hb1⟩)
  have HS1 : Hid _ := HS0.out.below hb1
  clear HS0 hb1 c1 c2
  have c3 := cellE (HS1.out.at 0 rfl) 3 (.slice ai e.inn.length ci) rfl
  have c4 := cellE (HS1.out.at 0 rfl) 4 (.int .i64 e.innM) rfl
  rcases hr1 with rfl | ⟨p0, p1, p2, p3⟩
  · go_wp2
    go_ret
    exact ⟨-1, rfl, .inl rfl, HS1.out.bel⟩
  have HP : Hid (fsBd e.out ∧ (e.out.length : Int) ≤ left) := ⟨p3, p2⟩
  clear p2 p3
  have d1 : decide (r1 < 0) = false := by rw [decide_eq_false_iff_not]; omega
  have h5 := HH2.out r1 w1 (HFI.out.below HS1.out.bel) p0 (by omega)
  go_upto_region 5 with (go_at_call 34; refine h5.mono ?_; clear h5; rintro e w2 ⟨r2, rfl, hr2, hb2⟩)
  have HS2 : Hid _ := HS1.out.below hb2
  clear HS1 hb2 c3 c4 d1
  have c5 := cellE (HS2.out.at 0 rfl) 5 (.string e.came) rfl
  have c6 := cellE (HS2.out.at 0 rfl) 6 (.slice aS e.sts.length cS) rfl
  rcases hr2 with rfl | ⟨q0, q1, q2, q3⟩
  · go_wp2
    go_ret
    exact ⟨-1, rfl, .inl rfl, HS2.out.bel⟩
  have HQ : Hid (fsBd e.inn ∧ (e.inn.length : Int) ≤ r1) := ⟨q3, q2⟩
  clear q2 q3
  have d2 : decide (r2 < 0) = false := by rw [decide_eq_false_iff_not]; omega
  have w2' : IntKind.i64.wrap (r2 - (e.came.size : Int)) = r2 - (e.came.size : Int) := by rw [IntKind.wrap_i64]; omega
  by_cases c2 : r2 - (e.came.size : Int) < 0
  · have dd2 : decide (r2 - (e.came.size : Int) < 0) = true := by simpa using c2
    go_wp2
    go_ret
    exact ⟨-1, rfl, .inl rfl, HS2.out.bel⟩
  have dd2 : decide (r2 - (e.came.size : Int) < 0) = false := by rw [decide_eq_false_iff_not]; exact c2
  have h5 := HH3.out (r2 - (e.came.size : Int)) w2 (HFS.out.below HS2.out.bel) (by omega) (by omega)
  go_upto_region 11 with (go_at_call 35; refine h5.mono ?_; clear h5; rintro e w3 ⟨r3, rfl, hr3, hb3⟩)
  have HS3 : Hid _ := HS2.out.below hb3
  clear HS2 hb3 c5 c6 d2 dd2 w2'
  have c9 := cellE (HS3.out.at 0 rfl) 9 (.slice aw e.wait.length cw) rfl
  rcases hr3 with rfl | ⟨u0, u1, u2, u3⟩
  · go_wp2
    go_ret
    exact ⟨-1, rfl, .inl rfl, HS3.out.bel⟩
  have HU : Hid ((∀ s ∈ e.sts, SmBd s) ∧ (e.sts.length : Int) ≤ r2 - (e.came.size : Int)) := ⟨u3, u2⟩
  clear u2 u3
  have d3 : decide (r3 < 0) = false := by rw [decide_eq_false_iff_not]; omega
  have h5 := HH4.out r3 w3 (HFW.out.below HS3.out.bel) u0 (by omega)
  go_upto_region 14 with (go_at_call 36; refine h5.mono ?_; clear h5; rintro e w4 ⟨r4, rfl, hr4, hb4⟩)
  have HS4 : Hid _ := HS3.out.below hb4
  clear HS3 hb4 c9 d3
  rcases hr4 with rfl | ⟨v0, v1, v2, v3⟩
  · go_wp2
    go_ret
    exact ⟨-1, rfl, .inl rfl, HS4.out.bel⟩
  have HV : Hid ((∀ f ∈ e.wait, f.b.size ≤ 1048576) ∧ (e.wait.length : Int) ≤ r3) := ⟨v3, v2⟩
  clear v2 v3
  have d4 : decide (r4 < 0) = false := by rw [decide_eq_false_iff_not]; omega
  have HBD : Hid (EdBd e) := by
    obtain ⟨a1, a2⟩ := HP.out
    obtain ⟨b1, b2⟩ := HQ.out
    obtain ⟨c1, c2'⟩ := HU.out
    obtain ⟨e1, e2⟩ := HV.out
    exact ⟨c1, by omega, a1, by omega, b1, by omega, HCM.out, fun f hf => by have := e1 f hf; unfold maxLen; omega, by omega⟩
  go_wp2
  go_ret
  exact ⟨r4, rfl, .inr ⟨v0, by omega, HBD.out⟩, HS4.out.bel⟩
end Go.Proofs.Ytdnajdobmlgmiaa
