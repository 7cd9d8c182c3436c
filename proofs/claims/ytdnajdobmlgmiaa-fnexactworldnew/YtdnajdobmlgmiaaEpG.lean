import Derived.Test.YtdnajdobmlgmiaaEpE
namespace Go.Proofs.Ytdnajdobmlgmiaa
open Go.RowKit
set_option linter.unusedVariables false

theorem edC_one2 {w : World} {e : Ed} {o i s q : Value} (h : EdV w e o i s q) : (edC e o i s q).all (·.oneCell') = true := by
  obtain ⟨⟨a1, n1, c1, rfl, _⟩, ⟨a2, n2, c2, rfl, _⟩, ⟨xs, ⟨a3, c3, rfl, _⟩, _⟩, ⟨a4, c4, rfl, _⟩⟩ := h
  simp [edC, Value.oneCell']
theorem Fs_none (w : World) : Fs w none 0 0 [] :=
  ⟨rfl, Nat.le_refl _, by unfold maxLen; omega, (by intro g o e j u hu; cases e), (by intro h; omega), .inl ⟨rfl, rfl, rfl⟩⟩
theorem Rd_none (w : World) (z : Nat) : RdRow w z (.slice none 0 0) 0 [] := ⟨none, 0, rfl, ⟨by simp, Nat.le_refl _, by unfold maxLen; omega, (by intro g o e j u hu; cases e), .inl ⟨rfl, rfl, rfl⟩⟩⟩
abbrev nilE (e : Ed) : Array Value := edC e (.slice none 0 0) (.slice none 0 0) (.slice none 0 0) (.slice none 0 0)
theorem EdV_new (w : World) (a : Bool) : EdV w (edNew a) (.slice none 0 0) (.slice none 0 0) (.slice none 0 0) (.slice none 0 0) :=
  ⟨⟨none, 0, 0, rfl, Fs_none w⟩, ⟨none, 0, 0, rfl, Fs_none w⟩, ⟨[], Rd_none w 12, rfl⟩, Rd_none w 4⟩
theorem EdLn_new (a : Bool) : EdLn (edNew a) := ⟨(by show 0 ≤ 1048576; omega), (by show 0 ≤ 1048576; omega), (by show 0 ≤ 1048576; omega), (by intro s hs; cases hs), (by show 0 ≤ 1048576; omega)⟩
set_option maxRecDepth 100000 in
set_option maxHeartbeats 1000000 in
theorem implEndNew (a : Bool) (w : World) :
    Calls Try.prog 15 #[.bool a] w fun r w' => r = .returned (.agg (nilE (edNew a))) ∧ Below w.heap.size w w' := by
  have hR : Hid ((w.alloc (.cells zEdC 30)).heap[w.heap.size]? = some (.cells zEdC 30 (0, 0))) := heap_alloc_last w _
  have hB : Hid (Below w.heap.size w (w.alloc (.cells zEdC 30))) := (Below.refl _ _).alloc (Nat.le_refl _) _
  have hO : Hid ((nilE (edNew a)).all (·.oneCell') = true) := edC_one2 (EdV_new w a)
  go_enter Try.func15, Try.ntmps15
  go_wp2_with (refine wpList_store_row rfl 30 _ _ rfl w.heap.size (nilE (edNew a)) rfl rfl 30 _ hR.out infoEd rfl hO.out ?_)
  exact bodyPost_ret (results_cW rfl _ _ w.heap.size _ rfl (load_ed (setRow_heap _ _ _ _ _ _ hR.out) rfl)) rfl ⟨rfl, bel_setRowE _ hB.out hB.out.size (Nat.le_refl _)⟩

set_option maxRecDepth 100000 in
set_option maxHeartbeats 1000000 in
theorem markFieldS_nil (k : Int) (w : World) :
    Calls Try.prog 52 #[.slice none 0 0, .int .i64 k] w fun r w' => r = .returned (.int .i64 k) ∧ Below w.heap.size w w' := by
  go_enter Try.func52, Try.ntmps52
  go_wp2
  go_loopw [1, 5] (fun l i wr => l = .int .i64 k ∧ i = .int .i64 0 ∧ wr = w) (fun _ _ _ => 0)
  case atStart => exact ⟨rfl, rfl, rfl⟩
  case round =>
    obtain ⟨rfl, rfl, rfl⟩ := hrel
    go_wp2
    go_ret
    exact ⟨rfl, Below.refl _ _⟩

set_option maxRecDepth 100000 in
set_option maxHeartbeats 1000000 in
theorem heldFieldS_nil (k : Int) (w : World) :
    Calls Try.prog 54 #[.slice none 0 0, .int .i64 k] w fun r w' => r = .returned (.int .i64 k) ∧ Below w.heap.size w w' := by
  go_enter Try.func54, Try.ntmps54
  go_wp2
  go_loopw [1, 5] (fun l i wr => l = .int .i64 k ∧ i = .int .i64 0 ∧ wr = w) (fun _ _ _ => 0)
  case atStart => exact ⟨rfl, rfl, rfl⟩
  case round =>
    obtain ⟨rfl, rfl, rfl⟩ := hrel
    go_wp2
    go_ret
    exact ⟨rfl, Below.refl _ _⟩

set_option maxRecDepth 100000 in
set_option maxHeartbeats 1000000 in
theorem markStreamS_nil (k : Int) (w : World) :
    Calls Try.prog 29 #[.slice none 0 0, .int .i64 k] w fun r w' => r = .returned (.int .i64 k) ∧ Below w.heap.size w w' := by
  go_enter Try.func29, Try.ntmps29
  go_wp2
  go_loopw [1, 5] (fun l i wr => l = .int .i64 k ∧ i = .int .i64 0 ∧ wr = w) (fun _ _ _ => 0)
  case atStart => exact ⟨rfl, rfl, rfl⟩
  case round =>
    obtain ⟨rfl, rfl, rfl⟩ := hrel
    go_wp2
    go_ret
    exact ⟨rfl, Below.refl _ _⟩

set_option maxRecDepth 100000 in
set_option maxHeartbeats 1000000 in
theorem heldStreamS_nil (k : Int) (w : World) :
    Calls Try.prog 32 #[.slice none 0 0, .int .i64 k] w fun r w' => r = .returned (.int .i64 k) ∧ Below w.heap.size w w' := by
  go_enter Try.func32, Try.ntmps32
  go_wp2
  go_loopw [1, 5] (fun l i wr => l = .int .i64 k ∧ i = .int .i64 0 ∧ wr = w) (fun _ _ _ => 0)
  case atStart => exact ⟨rfl, rfl, rfl⟩
  case round =>
    obtain ⟨rfl, rfl, rfl⟩ := hrel
    go_wp2
    go_ret
    exact ⟨rfl, Below.refl _ _⟩

set_option maxRecDepth 100000 in
set_option maxHeartbeats 1000000 in
theorem markFrameS_nil (k : Int) (w : World) :
    Calls Try.prog 30 #[.slice none 0 0, .int .i64 k] w fun r w' => r = .returned (.int .i64 k) ∧ Below w.heap.size w w' := by
  go_enter Try.func30, Try.ntmps30
  go_wp2
  go_loopw [1, 5] (fun l i wr => l = .int .i64 k ∧ i = .int .i64 0 ∧ wr = w) (fun _ _ _ => 0)
  case atStart => exact ⟨rfl, rfl, rfl⟩
  case round =>
    obtain ⟨rfl, rfl, rfl⟩ := hrel
    go_wp2
    go_ret
    exact ⟨rfl, Below.refl _ _⟩

set_option maxRecDepth 100000 in
set_option maxHeartbeats 1000000 in
theorem heldFrameS_nil (k : Int) (w : World) :
    Calls Try.prog 33 #[.slice none 0 0, .int .i64 k] w fun r w' => r = .returned (.int .i64 k) ∧ Below w.heap.size w w' := by
  go_enter Try.func33, Try.ntmps33
  go_wp2
  go_loopw [1, 5] (fun l i wr => l = .int .i64 k ∧ i = .int .i64 0 ∧ wr = w) (fun _ _ _ => 0)
  case atStart => exact ⟨rfl, rfl, rfl⟩
  case round =>
    obtain ⟨rfl, rfl, rfl⟩ := hrel
    go_wp2
    go_ret
    exact ⟨rfl, Below.refl _ _⟩

set_option maxRecDepth 100000 in
set_option maxHeartbeats 1000000 in
theorem markTable_nil (m k : Int) (w : World) (hk : 0 ≤ k) :
    Calls Try.prog 28 #[.agg #[.slice none 0 0, .int .i64 m], .int .i64 k] w fun r w' => r = .returned (.int .i64 k) ∧ Below w.heap.size w w' := by
  have hb : Below w.heap.size w (w.alloc (.cells #[.slice none 0 0, .int .i64 m] 24)) := (Below.refl _ _).alloc (Nat.le_refl _) _
  have hm := fun w => markFieldS_nil k w
  have hd : decide (k < 0) = false := by rw [decide_eq_false_iff_not]; omega
  have hd2 : ¬ k < 0 := by omega
  go_enter Try.func28, Try.ntmps28
  go_wp2_with fail
  refine (hm _).mono ?_
  rintro e w1 ⟨rfl, hb1⟩
  go_wp2
  go_ret
  exact ⟨rfl, btF hb hb1⟩

set_option maxRecDepth 100000 in
set_option maxHeartbeats 1000000 in
theorem heldTable_nil (m k : Int) (w : World) (hk : 0 ≤ k) :
    Calls Try.prog 31 #[.agg #[.slice none 0 0, .int .i64 m], .int .i64 k] w fun r w' => r = .returned (.int .i64 k) ∧ Below w.heap.size w w' := by
  have hb : Below w.heap.size w (w.alloc (.cells #[.slice none 0 0, .int .i64 m] 24)) := (Below.refl _ _).alloc (Nat.le_refl _) _
  have hm := fun w => heldFieldS_nil k w
  have hd : decide (k < 0) = false := by rw [decide_eq_false_iff_not]; omega
  have hd2 : ¬ k < 0 := by omega
  go_enter Try.func31, Try.ntmps31
  go_wp2_with fail
  refine (hm _).mono ?_
  rintro e w1 ⟨rfl, hb1⟩
  go_wp2
  go_ret
  exact ⟨rfl, btF hb hb1⟩

set_option maxRecDepth 100000 in
set_option maxHeartbeats 4000000 in
theorem markEnd_nil (e : Ed) (k : Int) (w : World) (hk : 0 ≤ k) :
    Calls Try.prog 17 #[.agg (nilE e), .int .i64 k] w fun r w' => r = .returned (.int .i64 k) ∧ Below w.heap.size w w' := by
  have S0 := (SB.start w).alloc (nilE e) 30
  have HS0 : Hid _ := S0
  have h1 := fun m w => markTable_nil m k w hk
  have h2 := fun w => markStreamS_nil k w
  have h3 := fun w => markFrameS_nil k w
  have hd : decide (k < 0) = false := by rw [decide_eq_false_iff_not]; omega
  have hd2 : ¬ k < 0 := by omega
  clear S0
  go_enter Try.func17, Try.ntmps17
  go_upto_region 1 with fail
  refine wabsW (fun V => SB w V [(w.heap.size, nilE e, 30)]) HS0.out ?_
  clear HS0
  rintro V1 S1
  have HS1 : Hid _ := S1
  clear S1
  have c1 := cellE (HS1.out.at 0 rfl) 1 (.slice none 0 0) rfl
  have c2 := cellE (HS1.out.at 0 rfl) 2 (.int .i64 e.outM) rfl
  go_wp2_with (go_at_call 28; refine (h1 _ _).mono ?_; rintro r w0 ⟨rfl, hb⟩; refine Hid.out ?_)
  refine hidI ?_
  have HS1x : Hid _ := HS1.out.below hb
  clear HS1 hb c1 c2
  have c3 := cellE (HS1x.out.at 0 rfl) 3 (.slice none 0 0) rfl
  have c4 := cellE (HS1x.out.at 0 rfl) 4 (.int .i64 e.innM) rfl
  go_wp2_with (go_at_call 28; refine (h1 _ _).mono ?_; rintro r w1 ⟨rfl, hb⟩; refine Hid.out ?_)
  refine hidI ?_
  have HS1xx : Hid _ := HS1x.out.below hb
  clear HS1x hb c3 c4
  have c6 := cellE (HS1xx.out.at 0 rfl) 6 (.slice none 0 0) rfl
  go_wp2_with (go_at_call 29; refine (h2 _).mono ?_; rintro r w2 ⟨rfl, hb⟩; refine Hid.out ?_)
  refine hidI ?_
  have HS1xxx : Hid _ := HS1xx.out.below hb
  clear HS1xx hb c6
  have c9 := cellE (HS1xxx.out.at 0 rfl) 9 (.slice none 0 0) rfl
  go_wp2_with (go_at_call 30; refine (h3 _).mono ?_; rintro r w3 ⟨rfl, hb⟩; refine Hid.out ?_)
  refine hidI ?_
  have HS1xxxx : Hid _ := HS1xxx.out.below hb
  clear HS1xxx hb c9
  go_wp2
  go_ret
  exact ⟨rfl, HS1xxxx.out.bel⟩

set_option maxRecDepth 100000 in
set_option maxHeartbeats 4000000 in
theorem heldEnd_nil (e : Ed) (k : Int) (w : World) (hk : 0 ≤ k) :
    Calls Try.prog 18 #[.agg (nilE e), .int .i64 k] w fun r w' => r = .returned (.int .i64 k) ∧ Below w.heap.size w w' := by
  have S0 := (SB.start w).alloc (nilE e) 30
  have HS0 : Hid _ := S0
  have h1 := fun m w => heldTable_nil m k w hk
  have h2 := fun w => heldStreamS_nil k w
  have h3 := fun w => heldFrameS_nil k w
  have hd : decide (k < 0) = false := by rw [decide_eq_false_iff_not]; omega
  have hd2 : ¬ k < 0 := by omega
  clear S0
  go_enter Try.func18, Try.ntmps18
  go_upto_region 1 with fail
  refine wabsW (fun V => SB w V [(w.heap.size, nilE e, 30)]) HS0.out ?_
  clear HS0
  rintro V1 S1
  have HS1 : Hid _ := S1
  clear S1
  have c1 := cellE (HS1.out.at 0 rfl) 1 (.slice none 0 0) rfl
  have c2 := cellE (HS1.out.at 0 rfl) 2 (.int .i64 e.outM) rfl
  go_wp2_with (go_at_call 31; refine (h1 _ _).mono ?_; rintro r w0 ⟨rfl, hb⟩; refine Hid.out ?_)
  refine hidI ?_
  have HS1x : Hid _ := HS1.out.below hb
  clear HS1 hb c1 c2
  have c3 := cellE (HS1x.out.at 0 rfl) 3 (.slice none 0 0) rfl
  have c4 := cellE (HS1x.out.at 0 rfl) 4 (.int .i64 e.innM) rfl
  go_wp2_with (go_at_call 31; refine (h1 _ _).mono ?_; rintro r w1 ⟨rfl, hb⟩; refine Hid.out ?_)
  refine hidI ?_
  have HS1xx : Hid _ := HS1x.out.below hb
  clear HS1x hb c3 c4
  have c6 := cellE (HS1xx.out.at 0 rfl) 6 (.slice none 0 0) rfl
  go_wp2_with (go_at_call 32; refine (h2 _).mono ?_; rintro r w2 ⟨rfl, hb⟩; refine Hid.out ?_)
  refine hidI ?_
  have HS1xxx : Hid _ := HS1xx.out.below hb
  clear HS1xx hb c6
  have c9 := cellE (HS1xxx.out.at 0 rfl) 9 (.slice none 0 0) rfl
  go_wp2_with (go_at_call 33; refine (h3 _).mono ?_; rintro r w3 ⟨rfl, hb⟩; refine Hid.out ?_)
  refine hidI ?_
  have HS1xxxx : Hid _ := HS1xxx.out.below hb
  clear HS1xxx hb c9
  go_wp2
  go_ret
  exact ⟨rfl, HS1xxxx.out.bel⟩
end Go.Proofs.Ytdnajdobmlgmiaa
