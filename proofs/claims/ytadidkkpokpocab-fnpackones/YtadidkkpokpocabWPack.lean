import Derived.Test.YtadidkkpokpocabWSgn
import Derived.Test.YtadidkkpokpocabWBits0
import Derived.Test.YtadidkkpokpocabL1
namespace Go.Proofs.Ytadidkkpokpocab
open Go.RowKit
set_option linter.unusedVariables false
theorem infoI : (Try.prog.info? 3).map (fun i => (i.zero, i.size, i.bytes)) = some (some (.int .i64 0), 1, 8) := by kernel_rfl

theorem cell_list (w : World) (xs : List Value) (e : TypeId) : ∀ j u, xs[j]? = some u → (w.alloc (.cells xs.toArray e)).cell? ((⟨w.heap.size, 0, none⟩ : Addr).add j) = some u := by
  intro j u hj
  obtain ⟨hj', rfl⟩ := List.getElem?_eq_some_iff.1 hj
  rw [Addr.add_lit]
  simp [hj']
theorem own_zero (w : World) (e : TypeId) : (w.alloc (.cells #[] e)).ownsRow w.heap.size e 1 (.slice (some ⟨w.heap.size, 0, none⟩) 0 0) 0 [] :=
  ⟨rfl, .inr ⟨w.heap.size, 0, #[], rfl, Nat.le_refl _, by show (w.heap.push _)[w.heap.size]? = _; simp, Nat.le_refl _, by decide, rfl, rfl⟩⟩
theorem own_form {w : World} {base : Nat} {e : TypeId} {size : Nat} {v : Value} {n : Nat} {xs : List Value} (h : w.ownsRow base e size v n xs) : ∃ a c, v = .slice a n c := by
  rcases h.2 with ⟨rfl, rfl⟩ | ⟨g, cap, cur, rfl, _⟩
  · exact ⟨_, _, rfl⟩
  · exact ⟨_, _, rfl⟩
theorem own_addr {w : World} {base : Nat} {e : TypeId} {size : Nat} {a : Option Addr} {c n : Nat} {xs : List Value} (h : w.ownsRow base e size (.slice a n c) n xs) (hn : 0 < n) : ∃ g, a = some ⟨g, 0, none⟩ ∧ n ≤ c ∧ c ≤ maxLen := by
  rcases h.2 with ⟨hv, rfl⟩ | ⟨g, cap, cur, hv, _, _, h1, h2, _⟩
  · omega
  · injection hv with h3 _ h4
    subst h4
    exact ⟨g, h3, h1, h2⟩
theorem own_below {w w' : World} {base : Nat} {e : TypeId} {size : Nat} {v : Value} {n : Nat} {xs : List Value} (h : w.ownsRow base e size v n xs) (hb : Below w.heap.size w w') : w'.ownsRow base e size v n xs := by
  refine ⟨h.1, ?_⟩
  rcases h.2 with h0 | ⟨g, cap, cur, h1, h2, h3, h4⟩
  · exact .inl h0
  · refine .inr ⟨g, cap, cur, h1, h2, ?_, h4⟩
    rw [hb.block g ?_]
    · exact h3
    · rcases Nat.lt_or_ge g w.heap.size with h | h
      · exact h
      · rw [Array.getElem?_eq_none h] at h3; simp at h3
theorem val_str {a b : ByteArray} (h : a = b) : Value.string a = .string b := by rw [h]
def lenV : Value → Nat
  | .slice _ n _ => n
  | _ => 0

set_option maxHeartbeats 1000000 in
theorem l2Pack_any (s : ByteArray) (w : World) (hz : s.size ≤ 16) (hok : ∀ c ∈ bytesL s, 0 ≤ sgn c) :
    Calls Try.prog 41 #[.string s] w fun e w' => e = .returned (.string (strOfNums (packL (bytesL s)))) ∧ Below w.heap.size w w' := by
  obtain ⟨ii, hi, hz0, hz1, hz2⟩ := info_parts infoI
  have HOK : Hid (∀ c ∈ bytesL s, 0 ≤ sgn c) := hok
  clear hok
  go_enter Try.func41, Try.ntmps41
  go_wp2
  go_loopw [3, 4] (fun v i wr => ∃ k : Nat, k ≤ s.size ∧ i = .int .i64 k ∧ wr.ownsRow w.heap.size 3 1 v (packB ((bytesL s).take k)).length ((packB ((bytesL s).take k)).map (Value.int .i64)) ∧ Below w.heap.size w wr) (fun _ i _ => s.size - (intOf i).toNat)
  case atStart => exact ⟨0, by omega, rfl, own_zero _ _, Below.alloc (Below.refl _ _) (Nat.le_refl _) _⟩
  case round =>
    obtain ⟨k, hk, rfl, hown, hbel⟩ := hrel
    by_cases hlt : k < s.size
    · have hlt' : (k : Int) < s.size := by omega
      have hkl : k < (bytesL s).length := by rw [bytesL_length]; exact hlt
      obtain ⟨x, hx⟩ : ∃ x, (bytesL s)[k] = x := ⟨_, rfl⟩
      have hq : ((s[k]'hlt).toNat : Int) = x := by rw [bytesL_at, ← hx]
      have hmem : x ∈ bytesL s := by rw [← hx]; exact List.getElem_mem hkl
      obtain ⟨x0, x1⟩ := bytesL_bd s x hmem
      have g1 := HOK.out x hmem
      have g2 := sgn_lt x
      have hlen := packB_length ((bytesL s).take k)
      rw [List.length_take] at hlen
      have hlen2 : (packB ((bytesL s).take k)).length ≤ 112 := by omega
      have HS : Hid (packB ((bytesL s).take (k + 1)) = packB ((bytesL s).take k) ++ sgnBits (sgn x)) := by
        show packB ((bytesL s).take (k + 1)) = packB ((bytesL s).take k) ++ sgnBits (sgn x)
        rw [List.take_succ_eq_append_getElem hkl, packB_snoc, hx]
      clear hx hmem hkl hlen
      have hsz := hbel.size
      go_wp2_with fail
      refine (l2Sign_any _ _ x0 x1).mono ?_
      rintro e wq ⟨rfl, rfl⟩
      by_cases h24 : sgn x < 24
      · have HB : Hid (sgnBits (sgn x) = bitsL 5 (sgn x)) := by show sgnBits (sgn x) = bitsL 5 (sgn x); unfold sgnBits; rw [if_pos h24]
        go_wp2_with fail
        refine (l2Bits5 _ _ g1 (by omega)).mono ?_
        rintro e wz ⟨rfl, rfl⟩
        go_wp2_with (at_builtin; refine wpList_append_own _ rfl _ _ 38 rfl w.heap.size 3 ii (.int .i64 0) 1 8 Try.underlying38 hi hz0 hz1 hz2 rfl (by decide) _ _ _ rfl (hown.alloc _) ⟨wq.heap.size, 0, none⟩ 5 5 ((bitsL 5 (sgn x)).map (Value.int .i64)) rfl ?c0 ?c1 ?c2 ?c3 ?c4 ?c5 ?_)
        case c0 => rw [List.length_map, bitsL_length]
        case c1 => exact cell_list _ _ _
        case c2 => exact ints_oneCell _ _
        case c3 => unfold maxLen; omega
        case c4 => omega
        case c5 => go_size
        intro v' w1 hown' hgrow _
        go_wp2
        go_roundw
        case rel =>
          refine ⟨k + 1, by omega, by go_num, ?_, ?_⟩
          · rw [HS.out, HB.out, List.length_append, bitsL_length, List.map_append]; exact hown'
          · exact Below.grown (Below.alloc hbel hsz _) hgrow (by go_size) (fun q hq => (hown.lt q hq).1)
        case measure => simp [intOf]; omega
      · have HB : Hid (sgnBits (sgn x) = bitsL 7 (96 + sgn x - 24)) := by show sgnBits (sgn x) = bitsL 7 (96 + sgn x - 24); unfold sgnBits; rw [if_neg h24]
        go_wp2_with fail
        refine (l2Bits7 _ _ (by omega) (by omega)).mono ?_
        rintro e wz ⟨rfl, rfl⟩
        go_wp2_with (at_builtin; refine wpList_append_own _ rfl _ _ 38 rfl w.heap.size 3 ii (.int .i64 0) 1 8 Try.underlying38 hi hz0 hz1 hz2 rfl (by decide) _ _ _ rfl (hown.alloc _) ⟨wq.heap.size, 0, none⟩ 7 7 ((bitsL 7 (96 + sgn x - 24)).map (Value.int .i64)) rfl ?d0 ?d1 ?d2 ?d3 ?d4 ?d5 ?_)
        case d0 => rw [List.length_map, bitsL_length]
        case d1 => exact cell_list _ _ _
        case d2 => exact ints_oneCell _ _
        case d3 => unfold maxLen; omega
        case d4 => omega
        case d5 => go_size
        intro v' w1 hown' hgrow _
        go_wp2
        go_roundw
        case rel =>
          refine ⟨k + 1, by omega, by go_num, ?_, ?_⟩
          · rw [HS.out, HB.out, List.length_append, bitsL_length, List.map_append]; exact hown'
          · exact Below.grown (Below.alloc hbel hsz _) hgrow (by go_size) (fun q hq => (hown.lt q hq).1)
        case measure => simp [intOf]; omega
    · have hks : k = s.size := by omega
      have hall : (bytesL s).take k = bytesL s := List.take_of_length_le (by rw [bytesL_length]; omega)
      rw [hall] at hown
      clear hall hks
      have hlen := packB_length (bytesL s)
      rw [bytesL_length] at hlen
      obtain ⟨L, hL⟩ : ∃ L, (packB (bytesL s)).length = L := ⟨_, rfl⟩
      rw [hL] at hown hlen
      have HL : Hid ((packB (bytesL s)).length = L) := hL
      have hbit := packB_bit (bytesL s)
      have HBIT : Hid (∀ b ∈ packB (bytesL s), b = 0 ∨ b = 1) := hbit
      clear hL hbit
      obtain ⟨a, c, hv⟩ := own_form hown
      go_wp2
      rw [hv]
      rw [hv] at hown
      clear hv
      go_loopw [3] (fun v wr => ∃ (j : Nat) (a : Option Addr) (c : Nat), j ≤ (8 - L % 8) % 8 ∧ v = .slice a (L + j) c ∧ wr.ownsRow w.heap.size 3 1 v (L + j) ((packB (bytesL s) ++ List.replicate j 1).map (Value.int .i64)) ∧ Below w.heap.size w wr) (fun v _ => L + 8 - lenV v)
      case atStart => exact ⟨0, a, c, by omega, rfl, by simpa using hown, hbel⟩
      case round =>
        clear hown hbel
        obtain ⟨j, a, c, hj, rfl, hown, hbel⟩ := hrel
        have hsz := hbel.size
        by_cases hm : 0 < (L + j) % 8
        · have hm' : 0 < ((L : Int) + j) % 8 := by omega
          go_wp2_with (at_builtin; refine wpList_append_own _ rfl _ _ 38 rfl w.heap.size 3 ii (.int .i64 0) 1 8 Try.underlying38 hi hz0 hz1 hz2 rfl (by decide) _ _ _ rfl (hown.alloc _) ⟨wr.heap.size, 0, none⟩ 1 1 [.int .i64 1] rfl rfl ?e1 ?e2 ?e3 ?e4 ?e5 ?_)
          case e1 => exact cell_one _ _ _ (by simp)
          case e2 => exact one_cell _ _
          case e3 => unfold maxLen; omega
          case e4 => omega
          case e5 => go_size
          intro v' w1 hown' hgrow _
          obtain ⟨a', c', hv'⟩ := own_form hown'
          have HV : Hid (v' = .slice a' (L + j + 1) c') := hv'
          clear hv'
          go_wp2
          go_roundw
          case rel =>
            refine ⟨j + 1, a', c', by omega, HV.out, ?_, ?_⟩
            · have eL : (packB (bytesL s) ++ List.replicate (j + 1) 1).map (Value.int .i64) = (packB (bytesL s)).map (Value.int .i64) ++ (List.replicate j (Value.int .i64 1) ++ [Value.int .i64 1]) := by
                simp [List.replicate_succ']
              rw [eL]; exact hown'
            · exact Below.grown (Below.alloc hbel hsz _) hgrow (by go_size) (fun q hq => (hown.lt q hq).1)
          case measure => rw [HV.out]; simp [lenV]; omega
        · have hm0 : (L + j) % 8 = 0 := by omega
          have hjp : j = (8 - L % 8) % 8 := by omega
          have hm' : ((L : Int) + j) % 8 = 0 := by omega
          have hbs : packB (bytesL s) ++ List.replicate j 1 = padB (packB (bytesL s)) := by unfold padB; rw [HL.out, ← hjp]
          rw [hbs] at hown
          have hM : (padB (packB (bytesL s))).length = L + j := by rw [← hbs, List.length_append, List.length_replicate, HL.out]
          have hbb := padB_bit _ HBIT.out
          obtain ⟨bs, hbse⟩ : ∃ bs, padB (packB (bytesL s)) = bs := ⟨_, rfl⟩
          have HP : Hid (packL (bytesL s) = chunkN bs ((L + j) / 8)) := by show packL (bytesL s) = _; unfold packL; rw [hM, hbse]
          rw [hbse] at hown hM hbb
          clear hbs hjp hbse HL HBIT HOK
          have HBB : Hid (∀ b ∈ bs, b = 0 ∨ b = 1) := hbb
          have HM : Hid (bs.length = L + j) := hM
          have hj7 : j ≤ 7 := by omega
          clear hbb hM hm hj
          go_wp2
          clear hm'
          have HM0 : Hid ((L + j) % 8 = 0) := hm0
          clear hm0
          go_loopw [6, 7] (fun out i wr => ∃ k : Nat, 8 * k ≤ L + j ∧ i = .int .i64 ((8 * k : Nat) : Int) ∧ out = .string (strOfNums (chunkN bs k)) ∧ wr.ownsRow w.heap.size 3 1 (.slice a (L + j) c) (L + j) (bs.map (Value.int .i64)) ∧ Below w.heap.size w wr) (fun _ i _ => L + j - (intOf i).toNat)
          case atStart => exact ⟨0, by omega, rfl, rfl, hown, hbel⟩
          case round =>
            clear hown hbel hsz
            obtain ⟨q, hq, rfl, rfl, hown, hbel⟩ := hrel
            by_cases hlt : 8 * q < L + j
            · obtain ⟨g, rfl, hc1, hc2⟩ := own_addr hown (by omega)
              unfold maxLen at hc2
              have hlt2 : 8 * q + 8 ≤ L + j := by have := HM0.out; omega
              have l1 : ((8 * q : Nat) : Int) < (L : Int) + j := by omega
              have l2 : ((8 * q : Nat) : Int) + 8 ≤ (c : Int) := by omega
              have hsz := hbel.size
              have hnb := numB_bd ((bs.drop (8 * q)).take 8) (fun b hb => HBB.out b (List.mem_of_mem_drop (List.mem_of_mem_take hb)))
              have hln : ((bs.drop (8 * q)).take 8).length = 8 := by rw [List.length_take, List.length_drop, HM.out]; omega
              rw [hln] at hnb
              have n0 := hnb.1
              have n1 : numB ((bs.drop (8 * q)).take 8) ≤ 255 := by have := hnb.2; omega
              have HLN : Hid (((bs.drop (8 * q)).take 8).length = 8) := hln
              clear hnb hln
              have hcs : ∀ i, i < ((bs.drop (8 * q)).take 8).length → wr.cell? ⟨g, 8 * q + i, none⟩ = some (.int .i64 (((bs.drop (8 * q)).take 8).getD i 0)) := by
                intro i hi
                rw [HLN.out] at hi
                have hi2 : 8 * q + i < bs.length := by rw [HM.out]; omega
                have := hown.cells (g := g) rfl (8 * q + i) (.int .i64 bs[8 * q + i]) (by simp [hi2])
                rw [Addr.add_lit] at this
                rw [show (0 : Nat) + (8 * q + i) = 8 * q + i by omega] at this
                rw [this]
                have e : ((bs.drop (8 * q)).take 8).getD i 0 = bs[8 * q + i] := by
                  simp [List.getD, hi, List.getElem?_drop, hi2]
                rw [e]
              have HCS : Hid (∀ i, i < ((bs.drop (8 * q)).take 8).length → wr.cell? ⟨g, 8 * q + i, none⟩ = some (.int .i64 (((bs.drop (8 * q)).take 8).getD i 0))) := hcs
              clear hcs
              have hsq : (strOfNums (chunkN bs q)).size ≤ 100 := by rw [strOfNums_size, chunkN_length]; omega
              have hs1 : ∀ x, (strOfNums [x]).size = 1 := fun _ => rfl
              go_wp2_with fail
              refine (l2Num_any _ _ _ _ ((bs.drop (8 * q)).take 8) _ HLN.out (by decide) (fun b hb => HBB.out b (List.mem_of_mem_drop (List.mem_of_mem_take hb))) HCS.out).mono ?_
              rintro e wq ⟨rfl, rfl⟩
              clear HCS
              go_wp2_with fail
              refine (l1Byte_any _ _ n0 n1).mono ?_
              rintro e w2 ⟨rfl, hb2⟩
              go_wp2
              go_roundw
              case rel =>
                have hv : Value.string (strOfNums (chunkN bs q) ++ strOfNums [numB ((bs.drop (8 * q)).take 8)]) = .string (strOfNums (chunkN bs (q + 1))) := val_str (by rw [strOfNums_append]; rfl)
                first
                  | exact ⟨q + 1, by omega, by go_num, hv, own_below hown hb2, hbel.trans (hb2.mono hsz)⟩
                  | ((repeat apply Exists.intro); exact ⟨⟨q + 1, by omega, by go_num, hv, own_below hown hb2, hbel.trans (hb2.mono hsz)⟩, rfl⟩)
              case measure => simp [intOf]; omega
            · have hqe : q = (L + j) / 8 := by have := HM0.out; omega
              have l1 : (L : Int) + j ≤ ((8 * q : Nat) : Int) := by omega
              have HQ : Hid (q = (L + j) / 8) := hqe
              clear hqe
              go_wp2
              go_ret
              exact ⟨ret_str (by rw [HP.out, HQ.out]), hbel⟩
end Go.Proofs.Ytadidkkpokpocab
