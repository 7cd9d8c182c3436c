import Derived.Test.YtmegdgkpdonikaaDoorFL0
import Derived.Test.YtmegdgkpdonikaaDoorFI
import Derived.Test.YtmegdgkpdonikaaDoorFD
import Derived.Deep.DeepCutAuto
import Derived.Deep.RegionHeld3
namespace Go.Proofs.YtmegdgkpdonikaaDoor
open Go.RowKit
set_option linter.unusedVariables false

theorem convert_one_drewF {P : Program} {e src dst : TypeId}
    (hs : P.underlying src = some (.slice e)) (he : P.underlying e = some (.int .u8)) (hd : P.underlying dst = some .string) (n : Int) (w : World) :
    (convert src dst (.slice (some ⟨w.heap.size, 0, none⟩) 1 1)).run P (w.alloc (.cells #[.int .u8 n] e)).drew = .ok (.string (strOfNums [n])) (w.alloc (.cells #[.int .u8 n] e)).drew := by
  refine run_convert_bytes_arg _ src e hs he w.heap.size 0 1 1 [n] rfl ?_ dst hd
  intro i hi
  have : i = 0 := by omega
  subst this
  simp
theorem u8_next (x : Int) (h0 : 0 ≤ x) (h1 : x ≤ 255) : 0 ≤ IntKind.u8.wrap (x + 1) ∧ IntKind.u8.wrap (x + 1) ≤ 255 ∧ IntKind.u8.wrap (x + 1) ≠ x := by
  obtain ⟨a, rfl⟩ := Int.eq_ofNat_of_zero_le h0
  have ha : a < 256 := by omega
  have key : ∀ a : Fin 256, 0 ≤ IntKind.u8.wrap (((a.1 : Nat) : Int) + 1) ∧ IntKind.u8.wrap (((a.1 : Nat) : Int) + 1) ≤ 255 ∧ IntKind.u8.wrap (((a.1 : Nat) : Int) + 1) ≠ ((a.1 : Nat) : Int) := by decide +kernel
  exact key ⟨a, ha⟩
theorem other_byte (b : ByteArray) (n : Nat) (hn : n < b.size) (y : Int) (h0 : 0 ≤ y) (h1 : y ≤ 255) (hne : y ≠ ((b[n]'hn).toNat : Int)) : (bytesL b)[n]? ≠ (bytesL (b.extract 0 n ++ strOfNums [y] ++ b.extract (n + 1) b.size))[n]? := by
  rw [bytesL_append, bytesL_append, bytesL_extract, List.drop_zero, bytesL_strOfNums _ (by intro x hx; simp at hx; omega)]
  have hl : ((bytesL b).take n).length = n := by rw [List.length_take, bytesL_length]; omega
  rw [List.append_assoc, List.getElem?_append_right (by omega), hl, Nat.sub_self, List.getElem?_eq_getElem (by rw [bytesL_length]; exact hn), ← bytesL_at b n hn]
  simp
  exact fun e => hne e.symm
set_option maxRecDepth 100000 in
set_option maxHeartbeats 20000000 in
theorem fnFrameBad_walk (a0 : Option Addr) (len0 cap0 : Nat) (z0 : List Int) (a1 : Option Addr) (len1 cap1 : Nat) (z1 : List Int) (w : World) (hG : GL w) (w0 : Row w a0 len0 cap0 z0) (w1 : Row w a1 len1 cap1 z1) :
    Calls Tryd.prog 7 #[.slice a0 len0 cap0, .slice a1 len1 cap1] w fun e w' => e = .returned (.bool true) ∧ Below w.heap.size w w' := by
  by_cases c0 : (1048576 : Int) < len0
  · clear w0 w1
    go_enter Tryd.func7, Tryd.ntmps7
    go_wp2
    go_ret
    exact ⟨rfl, Below.refl _ _⟩
  by_cases c1 : (1048576 : Int) < len1
  · clear w0 w1
    go_enter Tryd.func7, Tryd.ntmps7
    go_wp2
    go_ret
    exact ⟨rfl, Below.refl _ _⟩
  have R0 : Hid (Row w a0 len0 cap0 z0) := w0
  have R1 : Hid (Row w a1 len1 cap1 z1) := w1
  clear w0 w1
  go_enter Tryd.func7, Tryd.ntmps7
  go_wp2_with fail
  refine (drawFrameRead _ _ _ _ _ R0.out).mono ?_
  rintro e w1 ⟨b, rfl, hzb, hB⟩
  clear R0 R1
  have hSR := fun w => specFrameRead b w (by unfold maxLen; omega)
  have hIR := fun W (hb : Below w.heap.size w W) => implFrameRead b W (hG.below hb) (by unfold maxLen; omega)
  obtain ⟨⟨g, u, j⟩, hr⟩ : ∃ x, frRd b = x := ⟨_, rfl⟩
  rw [hr] at hSR hIR
  unfold Fr.val at hSR hIR
  dsimp only at hSR hIR
  have heq := eqFr_run g g
  rw [eqFr_self] at heq
  by_cases hj : j = 1
  · subst hj
    obtain ⟨_, _, h3, _⟩ := frRd_strict hr
    obtain ⟨m, hm⟩ : ∃ m : Int, (len1 : Int).tmod 4 = m := ⟨_, rfl⟩
    have hm' : (len1 : Int) % 4 = m := by rw [← hm, Int.tmod_eq_emod_of_nonneg (by omega)]
    have hm0 : 0 ≤ m := by omega
    have hm1 : m < 4 := by omega
    obtain ⟨n, rfl⟩ : ∃ n : Nat, m = (n : Int) := ⟨m.toNat, by omega⟩
    have hn4 : n < 4 := by omega
    have hnb : n < b.size := by omega
    have hnb' : (n : Int) < b.size := by omega
    have hwn : IntKind.i64.wrap ((n : Int) + 1) = (n : Int) + 1 := by rw [IntKind.wrap_i64]; omega
    obtain ⟨x0, hx0⟩ : ∃ x0 : Int, ((b[n]'hnb).toNat : Int) = x0 := ⟨_, rfl⟩
    have hx1 : 0 ≤ x0 := by omega
    have hx2 : x0 ≤ 255 := by have := (b[n]'hnb).toNat_lt; omega
    obtain ⟨hy1, hy2, hy3⟩ := u8_next x0 hx1 hx2
    obtain ⟨y0, hy0⟩ : ∃ y0 : Int, IntKind.u8.wrap (x0 + 1) = y0 := ⟨_, rfl⟩
    rw [hy0] at hy1 hy2 hy3
    have hob := other_byte b n hnb y0 hy1 hy2 (by rw [hx0]; exact hy3)
    have hbad := rd_bad (bytesL_bd b) (bytesL_bd _) hr hn4 hob
    have hsl1 : ∀ W : World, (Instr.slice 9 (.string b) none (some (.int .i64 (n : Int))) none).run Tryd.prog W = .ok (.string (b.extract 0 n)) W := fun W => by
      have h := run_slice_string_h (P := Tryd.prog) W 9 b Tryd.underlying9 .i64 (n : Int) (by omega) (by omega)
      rw [Int.toNat_natCast] at h
      exact h
    have hsl2 : ∀ W : World, (Instr.slice 9 (.string b) (some (.int .i64 ((n : Int) + 1))) none none).run Tryd.prog W = .ok (.string (b.extract (n + 1) b.size)) W := fun W => by
      have h := run_slice_string_l (P := Tryd.prog) W 9 b Tryd.underlying9 .i64 ((n : Int) + 1) (by omega) (by omega)
      rw [show ((n : Int) + 1).toNat = n + 1 by omega] at h
      exact h
    have hp1 : (b.extract 0 n).size ≤ 600 := by rw [ByteArray.size_extract]; omega
    have hq1 : (b.extract (n + 1) b.size).size ≤ 600 := by rw [ByteArray.size_extract]; omega
    obtain ⟨p, hp⟩ : ∃ p, b.extract 0 n = p := ⟨_, rfl⟩
    obtain ⟨q, hq⟩ : ∃ q, b.extract (n + 1) b.size = q := ⟨_, rfl⟩
    rw [hp] at hsl1 hp1 hbad
    rw [hq] at hsl2 hq1 hbad
    have hone : ∀ x, (strOfNums [x]).size = 1 := fun _ => rfl
    have hR1 := fun W (hb : Below w.heap.size w W) => implFrameRead (p ++ strOfNums [y0] ++ q) W (hG.below hb) (by unfold maxLen; rw [ByteArray.size_append, ByteArray.size_append, hone]; omega)
    have hR2 := fun W (hb : Below w.heap.size w W) => implFrameRead ⟨#[201, 0, 0, 1]⟩ W (hG.below hb) (by decide)
    rw [show frRd ⟨#[201, 0, 0, 1]⟩ = (zFr, 0, -1) from rfl] at hR2
    obtain ⟨⟨g2, u2, j2⟩, hr2⟩ : ∃ x, frRd (p ++ strOfNums [y0] ++ q) = x := ⟨_, rfl⟩
    have hr3 : rdFr (bytesL (p ++ strOfNums [y0] ++ q)) = (g2, u2, j2) := hr2
    rw [hr3] at hbad
    rw [hr2] at hR1
    unfold Fr.val at hR1 hR2
    unfold zFr at hR2
    dsimp only at hR1 hR2 hbad
    have heq2 := eqFr_run g2 g
    have HBAD : Hid (¬ (j2 = 1 ∧ g2 = g)) := hbad
    have hcv := fun n w => convert_one_drewF (P := Tryd.prog) Tryd.underlying22 Tryd.underlying5 Tryd.underlying9 n w
    have g1 : ¬ 9223372036854775807 < p.size + 1 := by omega
    have g2' : ¬ 9223372036854775807 < p.size + 1 + q.size := by omega
    clear hr hr2 hr3 hob hbad hp hq h3 hy3
    go_wp2_with fail
    refine (hSR _).mono ?_
    rintro e v1 ⟨rfl, hb⟩
    replace hB := btF hB hb
    clear hb
    clear hSR
    have hbA : Below v1.heap.size v1 (v1.alloc (.cells #[.int .i64 g.k, .bool g.l, .int .i64 g.s, .string g.b] 24)) := ((Below.refl _ _).alloc (Nat.le_refl _) _)
    replace hB := btF hB hbA
    clear hbA
    have C_v : (v1.alloc (.cells #[.int .i64 g.k, .bool g.l, .int .i64 g.s, .string g.b] 24)).heap[v1.heap.size]? = some (.cells #[.int .i64 g.k, .bool g.l, .int .i64 g.s, .string g.b] 24 (0, 0)) := heap_alloc_last v1 _
    go_wp2_with fail
    refine (hIR _ hB).mono ?_
    rintro e v2 ⟨rfl, hb⟩
    replace C_v := blkF hb C_v
    replace hB := btF hB hb
    clear hb
    clear hIR
    have hbA : Below v2.heap.size v2 (v2.alloc (.cells #[.int .i64 g.k, .bool g.l, .int .i64 g.s, .string g.b] 24)) := ((Below.refl _ _).alloc (Nat.le_refl _) _)
    replace C_v := blkF hbA C_v
    replace hB := btF hB hbA
    clear hbA
    have C_f : (v2.alloc (.cells #[.int .i64 g.k, .bool g.l, .int .i64 g.s, .string g.b] 24)).heap[v2.heap.size]? = some (.cells #[.int .i64 g.k, .bool g.l, .int .i64 g.s, .string g.b] 24 (0, 0)) := heap_alloc_last v2 _
    obtain ⟨tv0, tv1, tv2, tv3⟩ := row4c C_v
    obtain ⟨tf0, tf1, tf2, tf3⟩ := row4c C_f
    go_upto_region 9 with fail
    clear tv0 tv1 tv2 tv3 tf0 tf1 tf2 tf3
    refine wabsF (fun U => U.heap[v2.heap.size]? = some (.cells #[.int .i64 g.k, .bool g.l, .int .i64 g.s, .string g.b] 24 (0, 0)) ∧ Below w.heap.size w U) ⟨C_f, hB⟩ ?_
    clear C_v C_f hB
    rintro U ⟨C_f, hB⟩
    go_region
    have hbA : Below U.heap.size U (U.alloc (.cells #[.int .u8 y0] 5)).drew := ((Below.refl _ _).alloc (Nat.le_refl _) _).drew
    replace C_f := blkF hbA C_f
    replace hB := btF hB hbA
    clear hbA
    go_wp2_with fail
    refine (hR1 _ hB).mono ?_
    rintro e v3 ⟨rfl, hb⟩
    replace C_f := blkF hb C_f
    replace hB := btF hB hb
    clear hb hR1
    have hbA : Below v3.heap.size v3 (v3.alloc (.cells #[.int .i64 g2.k, .bool g2.l, .int .i64 g2.s, .string g2.b] 24)) := ((Below.refl _ _).alloc (Nat.le_refl _) _)
    replace C_f := blkF hbA C_f
    replace hB := btF hB hbA
    clear hbA
    have C_x : (v3.alloc (.cells #[.int .i64 g2.k, .bool g2.l, .int .i64 g2.s, .string g2.b] 24)).heap[v3.heap.size]? = some (.cells #[.int .i64 g2.k, .bool g2.l, .int .i64 g2.s, .string g2.b] 24 (0, 0)) := heap_alloc_last v3 _
    go_wp2_with fail
    refine (hR2 _ hB).mono ?_
    rintro e v4 ⟨rfl, hb⟩
    replace C_f := blkF hb C_f
    replace C_x := blkF hb C_x
    replace hB := btF hB hb
    clear hb
    clear hR2
    have hbA : Below v4.heap.size v4 (v4.alloc (.cells #[.int .i64 0, .bool false, .int .i64 0, .string ⟨#[]⟩] 24)) := ((Below.refl _ _).alloc (Nat.le_refl _) _)
    replace C_f := blkF hbA C_f
    replace C_x := blkF hbA C_x
    replace hB := btF hB hbA
    clear hbA
    have C_y : (v4.alloc (.cells #[.int .i64 0, .bool false, .int .i64 0, .string ⟨#[]⟩] 24)).heap[v4.heap.size]? = some (.cells #[.int .i64 0, .bool false, .int .i64 0, .string ⟨#[]⟩] 24 (0, 0)) := heap_alloc_last v4 _
    obtain ⟨tf0, tf1, tf2, tf3⟩ := row4c C_f
    obtain ⟨tx0, tx1, tx2, tx3⟩ := row4c C_x
    by_cases hj2 : j2 = 1
    · rw [eqFr_no (fun e => HBAD.out ⟨hj2, e⟩)] at heq2
      subst hj2
      go_wp2
      go_ret
      exact ⟨rfl, hB⟩
    · have hj3 : (j2 == 1) = false := by simpa using hj2
      go_wp2
      go_ret
      exact ⟨rfl, hB⟩
  · have hj' : (j == 1) = false := by simpa using hj
    clear hr
    go_wp2_with fail
    refine (hSR _).mono ?_
    rintro e v1 ⟨rfl, hb⟩
    replace hB := btF hB hb
    clear hb
    clear hSR
    have hbA : Below v1.heap.size v1 (v1.alloc (.cells #[.int .i64 g.k, .bool g.l, .int .i64 g.s, .string g.b] 24)) := ((Below.refl _ _).alloc (Nat.le_refl _) _)
    replace hB := btF hB hbA
    clear hbA
    have C_v : (v1.alloc (.cells #[.int .i64 g.k, .bool g.l, .int .i64 g.s, .string g.b] 24)).heap[v1.heap.size]? = some (.cells #[.int .i64 g.k, .bool g.l, .int .i64 g.s, .string g.b] 24 (0, 0)) := heap_alloc_last v1 _
    go_wp2_with fail
    refine (hIR _ hB).mono ?_
    rintro e v2 ⟨rfl, hb⟩
    replace C_v := blkF hb C_v
    replace hB := btF hB hb
    clear hb
    clear hIR
    have hbA : Below v2.heap.size v2 (v2.alloc (.cells #[.int .i64 g.k, .bool g.l, .int .i64 g.s, .string g.b] 24)) := ((Below.refl _ _).alloc (Nat.le_refl _) _)
    replace C_v := blkF hbA C_v
    replace hB := btF hB hbA
    clear hbA
    have C_f : (v2.alloc (.cells #[.int .i64 g.k, .bool g.l, .int .i64 g.s, .string g.b] 24)).heap[v2.heap.size]? = some (.cells #[.int .i64 g.k, .bool g.l, .int .i64 g.s, .string g.b] 24 (0, 0)) := heap_alloc_last v2 _
    obtain ⟨tv0, tv1, tv2, tv3⟩ := row4c C_v
    obtain ⟨tf0, tf1, tf2, tf3⟩ := row4c C_f
    go_wp2
    go_ret
    exact ⟨rfl, hB⟩
end Go.Proofs.YtmegdgkpdonikaaDoor
