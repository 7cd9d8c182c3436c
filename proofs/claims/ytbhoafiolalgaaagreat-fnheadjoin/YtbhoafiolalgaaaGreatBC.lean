import Derived.Test.YtbhoafiolalgaaaGreatBA
import Derived.Test.YtbhoafiolalgaaaGreatSW
import Derived.Test.YtbhoafiolalgaaaGreatSpR7
import Derived.Test.YtbhoafiolalgaaaGreatBD
namespace Go.Proofs.YtbhoafiolalgaaaGreat
open Go.RowKit
set_option linter.unusedVariables false
theorem infoI : (Tryz.prog.info? 3).map (fun i => (i.zero, i.size, i.bytes)) = some (some (.int .i64 0), 1, 8) := by kernel_rfl

theorem cell_list (w : World) (xs : List Value) (e : TypeId) : ∀ j u, xs[j]? = some u → (w.alloc (.cells xs.toArray e)).cell? ((⟨w.heap.size, 0, none⟩ : Addr).add j) = some u := by
  intro j u hj
  obtain ⟨hj', rfl⟩ := List.getElem?_eq_some_iff.1 hj
  rw [Addr.add_lit]
  simp [hj']
theorem own_zero (w : World) (e : TypeId) : (w.alloc (.cells #[] e)).ownsRow w.heap.size e 1 (.slice (some ⟨w.heap.size, 0, none⟩) 0 0) 0 [] :=
  ⟨rfl, .inr ⟨w.heap.size, 0, #[], rfl, Nat.le_refl _, by show (w.heap.push _)[w.heap.size]? = _; simp, Nat.le_refl _, by decide, rfl, rfl⟩⟩
theorem own_form {w : World} {base : Nat} {e : TypeId} {size : Nat} {v : Value} {n : Nat} {xs : List Value} (h : w.ownsRow base e size v n xs) : ∃ a c, v = .slice a n c := by
  rcases h.2 with ⟨rfl, rfl⟩ | ⟨g, cap, cur, rfl, _⟩
  · exact ⟨_, _, rfl⟩
  · exact ⟨_, _, rfl⟩
theorem own_addr {w : World} {base : Nat} {e : TypeId} {size : Nat} {a : Option Addr} {c n : Nat} {xs : List Value} (h : w.ownsRow base e size (.slice a n c) n xs) (hn : 0 < n) : ∃ g, a = some ⟨g, 0, none⟩ ∧ n ≤ c ∧ c ≤ maxLen := by
  rcases h.2 with ⟨hv, rfl⟩ | ⟨g, cap, cur, hv, _, _, h1, h2, _⟩
  · omega
  · injection hv with h3 _ h4
    subst h4
    exact ⟨g, h3, h1, h2⟩
theorem own_below {w w' : World} {base : Nat} {e : TypeId} {size : Nat} {v : Value} {n : Nat} {xs : List Value} (h : w.ownsRow base e size v n xs) (hb : Below w.heap.size w w') : w'.ownsRow base e size v n xs := by
  refine ⟨h.1, ?_⟩
  rcases h.2 with h0 | ⟨g, cap, cur, h1, h2, h3, h4⟩
  · exact .inl h0
  · refine .inr ⟨g, cap, cur, h1, h2, ?_, h4⟩
    rw [hb.block g ?_]
    · exact h3
    · rcases Nat.lt_or_ge g w.heap.size with h | h
      · exact h
      · rw [Array.getElem?_eq_none h] at h3; simp at h3
theorem val_str {a b : ByteArray} (h : a = b) : Value.string a = .string b := by rw [h]
def lenV : Value → Nat
  | .slice _ n _ => n
  | _ => 0

set_option maxRecDepth 100000 in
set_option maxHeartbeats 1000000 in
theorem l2Pack_any (s : ByteArray) (w : World) (hz : s.size ≤ 16) (hok : ∀ c ∈ bytesL s, 0 ≤ sgn c) :
    Calls Tryz.prog 54 #[.string s] w fun e w' => e = .returned (.string (strOfNums (packL (bytesL s)))) ∧ Below w.heap.size w w' := by
  obtain ⟨ii, hi, hz0, hz1, hz2⟩ := info_parts infoI
  have HOK : Hid (∀ c ∈ bytesL s, 0 ≤ sgn c) := hok
  clear hok
  go_enter Tryz.func54, Tryz.ntmps54
  go_wp2
  go_loopw [3, 4] (fun v i wr => ∃ k : Nat, k ≤ s.size ∧ i = .int .i64 k ∧ wr.ownsRow w.heap.size 3 1 v (packB ((bytesL s).take k)).length ((packB ((bytesL s).take k)).map (Value.int .i64)) ∧ Below w.heap.size w wr) (fun _ i _ => s.size - (intOf i).toNat)
  case atStart => exact ⟨0, by omega, rfl, own_zero _ _, Below.alloc (Below.refl _ _) (Nat.le_refl _) _⟩
  case round =>
    obtain ⟨k, hk, rfl, hown, hbel⟩ := hrel
    by_cases hlt : k < s.size
    · have hlt' : (k : Int) < s.size := by omega
      have hkl : k < (bytesL s).length := by rw [bytesL_length]; exact hlt
      obtain ⟨x, hx⟩ : ∃ x, (bytesL s)[k] = x := ⟨_, rfl⟩
      have hq : ((s[k]'hlt).toNat : Int) = x := by rw [bytesL_at, ← hx]
      have hmem : x ∈ bytesL s := by rw [← hx]; exact List.getElem_mem hkl
      obtain ⟨x0, x1⟩ := bytesL_bd s x hmem
      have g1 := HOK.out x hmem
      have g2 := sgn_lt x
      have hlen := packB_length ((bytesL s).take k)
      rw [List.length_take] at hlen
      have hlen2 : (packB ((bytesL s).take k)).length ≤ 112 := by omega
      have HS : Hid (packB ((bytesL s).take (k + 1)) = packB ((bytesL s).take k) ++ sgnBits (sgn x)) := by
        show packB ((bytesL s).take (k + 1)) = packB ((bytesL s).take k) ++ sgnBits (sgn x)
        rw [List.take_succ_eq_append_getElem hkl, packB_snoc, hx]
      clear hx hmem hkl hlen
      have hsz := hbel.size
      go_wp2_with fail
      refine (l2Sign_any _ _ x0 x1).mono ?_
      rintro e wq ⟨rfl, rfl⟩
      by_cases h24 : sgn x < 24
      · have HB : Hid (sgnBits (sgn x) = bitsL 5 (sgn x)) := by show sgnBits (sgn x) = bitsL 5 (sgn x); unfold sgnBits; rw [if_pos h24]
        go_wp2_with fail
        refine (l2Bits5 _ _ g1 (by omega)).mono ?_
        rintro e wz ⟨rfl, rfl⟩
        go_wp2_with (at_builtin; refine wpList_append_own _ rfl _ _ 60 rfl w.heap.size 3 ii (.int .i64 0) 1 8 Tryz.underlying60 hi hz0 hz1 hz2 rfl (by decide) _ _ _ rfl (hown.alloc _) ⟨wq.heap.size, 0, none⟩ 5 5 ((bitsL 5 (sgn x)).map (Value.int .i64)) rfl ?c0 ?c1 ?c2 ?c3 ?c4 ?c5 ?_)
        case c0 => rw [List.length_map, bitsL_length]
        case c1 => exact cell_list _ _ _
        case c2 => exact ints_oneCell _ _
        case c3 => unfold maxLen; omega
        case c4 => omega
        case c5 => go_size
        intro v' w1 hown' hgrow _
        go_wp2
        go_roundw
        case rel =>
          refine ⟨k + 1, by omega, by go_num, ?_, ?_⟩
          · rw [HS.out, HB.out, List.length_append, bitsL_length, List.map_append]; exact hown'
          · exact Below.grown (Below.alloc hbel hsz _) hgrow (by go_size) (fun q hq => (hown.lt q hq).1)
        case measure => simp [intOf]; omega
      · have HB : Hid (sgnBits (sgn x) = bitsL 7 (96 + sgn x - 24)) := by show sgnBits (sgn x) = bitsL 7 (96 + sgn x - 24); unfold sgnBits; rw [if_neg h24]
        go_wp2_with fail
        refine (l2Bits7 _ _ (by omega) (by omega)).mono ?_
        rintro e wz ⟨rfl, rfl⟩
        go_wp2_with (at_builtin; refine wpList_append_own _ rfl _ _ 60 rfl w.heap.size 3 ii (.int .i64 0) 1 8 Tryz.underlying60 hi hz0 hz1 hz2 rfl (by decide) _ _ _ rfl (hown.alloc _) ⟨wq.heap.size, 0, none⟩ 7 7 ((bitsL 7 (96 + sgn x - 24)).map (Value.int .i64)) rfl ?d0 ?d1 ?d2 ?d3 ?d4 ?d5 ?_)
        case d0 => rw [List.length_map, bitsL_length]
        case d1 => exact cell_list _ _ _
        case d2 => exact ints_oneCell _ _
        case d3 => unfold maxLen; omega
        case d4 => omega
        case d5 => go_size
        intro v' w1 hown' hgrow _
        go_wp2
        go_roundw
        case rel =>
          refine ⟨k + 1, by omega, by go_num, ?_, ?_⟩
          · rw [HS.out, HB.out, List.length_append, bitsL_length, List.map_append]; exact hown'
          · exact Below.grown (Below.alloc hbel hsz _) hgrow (by go_size) (fun q hq => (hown.lt q hq).1)
        case measure => simp [intOf]; omega
    · have hks : k = s.size := by omega
      have hall : (bytesL s).take k = bytesL s := List.take_of_length_le (by rw [bytesL_length]; omega)
      rw [hall] at hown
      clear hall hks
      have hlen := packB_length (bytesL s)
      rw [bytesL_length] at hlen
      obtain ⟨L, hL⟩ : ∃ L, (packB (bytesL s)).length = L := ⟨_, rfl⟩
      rw [hL] at hown hlen
      have HL : Hid ((packB (bytesL s)).length = L) := hL
      have hbit := packB_bit (bytesL s)
      have HBIT : Hid (∀ b ∈ packB (bytesL s), b = 0 ∨ b = 1) := hbit
      clear hL hbit
      obtain ⟨a, c, hv⟩ := own_form hown
      go_wp2
      rw [hv]
      rw [hv] at hown
      clear hv
      go_loopw [3] (fun v wr => ∃ (j : Nat) (a : Option Addr) (c : Nat), j ≤ (8 - L % 8) % 8 ∧ v = .slice a (L + j) c ∧ wr.ownsRow w.heap.size 3 1 v (L + j) ((packB (bytesL s) ++ List.replicate j 1).map (Value.int .i64)) ∧ Below w.heap.size w wr) (fun v _ => L + 8 - lenV v)
      case atStart => exact ⟨0, a, c, by omega, rfl, by simpa using hown, hbel⟩
      case round =>
        clear hown hbel
        obtain ⟨j, a, c, hj, rfl, hown, hbel⟩ := hrel
        have hsz := hbel.size
        by_cases hm : 0 < (L + j) % 8
        · have hm' : 0 < ((L : Int) + j) % 8 := by omega
          go_wp2_with (at_builtin; refine wpList_append_own _ rfl _ _ 60 rfl w.heap.size 3 ii (.int .i64 0) 1 8 Tryz.underlying60 hi hz0 hz1 hz2 rfl (by decide) _ _ _ rfl (hown.alloc _) ⟨wr.heap.size, 0, none⟩ 1 1 [.int .i64 1] rfl rfl ?e1 ?e2 ?e3 ?e4 ?e5 ?_)
          case e1 => exact cell_one _ _ _ (by simp)
          case e2 => exact one_cell _ _
          case e3 => unfold maxLen; omega
          case e4 => omega
          case e5 => go_size
          intro v' w1 hown' hgrow _
          obtain ⟨a', c', hv'⟩ := own_form hown'
          have HV : Hid (v' = .slice a' (L + j + 1) c') := hv'
          clear hv'
          go_wp2
          go_roundw
          case rel =>
            refine ⟨j + 1, a', c', by omega, HV.out, ?_, ?_⟩
            · have eL : (packB (bytesL s) ++ List.replicate (j + 1) 1).map (Value.int .i64) = (packB (bytesL s)).map (Value.int .i64) ++ (List.replicate j (Value.int .i64 1) ++ [Value.int .i64 1]) := by
                simp [List.replicate_succ']
              rw [eL]; exact hown'
            · exact Below.grown (Below.alloc hbel hsz _) hgrow (by go_size) (fun q hq => (hown.lt q hq).1)
          case measure => rw [HV.out]; simp [lenV]; omega
        · have hm0 : (L + j) % 8 = 0 := by omega
          have hjp : j = (8 - L % 8) % 8 := by omega
          have hm' : ((L : Int) + j) % 8 = 0 := by omega
          have hbs : packB (bytesL s) ++ List.replicate j 1 = padB (packB (bytesL s)) := by unfold padB; rw [HL.out, ← hjp]
          rw [hbs] at hown
          have hM : (padB (packB (bytesL s))).length = L + j := by rw [← hbs, List.length_append, List.length_replicate, HL.out]
          have hbb := padB_bit _ HBIT.out
          obtain ⟨bs, hbse⟩ : ∃ bs, padB (packB (bytesL s)) = bs := ⟨_, rfl⟩
          have HP : Hid (packL (bytesL s) = chunkN bs ((L + j) / 8)) := by show packL (bytesL s) = _; unfold packL; rw [hM, hbse]
          rw [hbse] at hown hM hbb
          clear hbs hjp hbse HL HBIT HOK
          have HBB : Hid (∀ b ∈ bs, b = 0 ∨ b = 1) := hbb
          have HM : Hid (bs.length = L + j) := hM
          have hj7 : j ≤ 7 := by omega
          clear hbb hM hm hj
          go_wp2
          clear hm'
          have HM0 : Hid ((L + j) % 8 = 0) := hm0
          clear hm0
          go_loopw [6, 7] (fun out i wr => ∃ k : Nat, 8 * k ≤ L + j ∧ i = .int .i64 ((8 * k : Nat) : Int) ∧ out = .string (strOfNums (chunkN bs k)) ∧ wr.ownsRow w.heap.size 3 1 (.slice a (L + j) c) (L + j) (bs.map (Value.int .i64)) ∧ Below w.heap.size w wr) (fun _ i _ => L + j - (intOf i).toNat)
          case atStart => exact ⟨0, by omega, rfl, rfl, hown, hbel⟩
          case round =>
            clear hown hbel hsz
            obtain ⟨q, hq, rfl, rfl, hown, hbel⟩ := hrel
            by_cases hlt : 8 * q < L + j
            · obtain ⟨g, rfl, hc1, hc2⟩ := own_addr hown (by omega)
              unfold maxLen at hc2
              have hlt2 : 8 * q + 8 ≤ L + j := by have := HM0.out; omega
              have l1 : ((8 * q : Nat) : Int) < (L : Int) + j := by omega
              have l2 : ((8 * q : Nat) : Int) + 8 ≤ (c : Int) := by omega
              have hsz := hbel.size
              have hnb := numB_bd ((bs.drop (8 * q)).take 8) (fun b hb => HBB.out b (List.mem_of_mem_drop (List.mem_of_mem_take hb)))
              have hln : ((bs.drop (8 * q)).take 8).length = 8 := by rw [List.length_take, List.length_drop, HM.out]; omega
              rw [hln] at hnb
              have n0 := hnb.1
              have n1 : numB ((bs.drop (8 * q)).take 8) ≤ 255 := by have := hnb.2; omega
              have HLN : Hid (((bs.drop (8 * q)).take 8).length = 8) := hln
              clear hnb hln
              have hcs : ∀ i, i < ((bs.drop (8 * q)).take 8).length → wr.cell? ⟨g, 8 * q + i, none⟩ = some (.int .i64 (((bs.drop (8 * q)).take 8).getD i 0)) := by
                intro i hi
                rw [HLN.out] at hi
                have hi2 : 8 * q + i < bs.length := by rw [HM.out]; omega
                have := hown.cells (g := g) rfl (8 * q + i) (.int .i64 bs[8 * q + i]) (by simp [hi2])
                rw [Addr.add_lit] at this
                rw [show (0 : Nat) + (8 * q + i) = 8 * q + i by omega] at this
                rw [this]
                have e : ((bs.drop (8 * q)).take 8).getD i 0 = bs[8 * q + i] := by
                  simp [List.getD, hi, List.getElem?_drop, hi2]
                rw [e]
              have HCS : Hid (∀ i, i < ((bs.drop (8 * q)).take 8).length → wr.cell? ⟨g, 8 * q + i, none⟩ = some (.int .i64 (((bs.drop (8 * q)).take 8).getD i 0))) := hcs
              clear hcs
              have hsq : (strOfNums (chunkN bs q)).size ≤ 100 := by rw [strOfNums_size, chunkN_length]; omega
              have hs1 : ∀ x, (strOfNums [x]).size = 1 := fun _ => rfl
              go_wp2_with fail
              refine (l2Num_any _ _ _ _ ((bs.drop (8 * q)).take 8) _ HLN.out (by decide) (fun b hb => HBB.out b (List.mem_of_mem_drop (List.mem_of_mem_take hb))) HCS.out).mono ?_
              rintro e wq ⟨rfl, rfl⟩
              clear HCS
              go_wp2_with fail
              refine (l1Byte_any _ _ n0 n1).mono ?_
              rintro e w2 ⟨rfl, hb2⟩
              go_wp2
              go_roundw
              case rel =>
                have hv : Value.string (strOfNums (chunkN bs q) ++ strOfNums [numB ((bs.drop (8 * q)).take 8)]) = .string (strOfNums (chunkN bs (q + 1))) := val_str (by rw [strOfNums_append]; rfl)
                first
                  | exact ⟨q + 1, by omega, by go_num, hv, own_below hown hb2, hbel.trans (hb2.mono hsz)⟩
                  | ((repeat apply Exists.intro); exact ⟨⟨q + 1, by omega, by go_num, hv, own_below hown hb2, hbel.trans (hb2.mono hsz)⟩, rfl⟩)
              case measure => simp [intOf]; omega
            · have hqe : q = (L + j) / 8 := by have := HM0.out; omega
              have l1 : (L : Int) + j ≤ ((8 * q : Nat) : Int) := by omega
              have HQ : Hid (q = (L + j) / 8) := hqe
              clear hqe
              go_wp2
              go_ret
              exact ⟨ret_str (by rw [HP.out, HQ.out]), hbel⟩
end Go.Proofs.YtbhoafiolalgaaaGreat

namespace Go.Proofs.YtbhoafiolalgaaaGreat
open Go.RowKit
set_option linter.unusedVariables false

theorem ret_sb {a b : ByteArray} {c d : Bool} (h : a = b) (h' : c = d) : Ending.returned (.tuple #[.string a, .bool c]) = .returned (.tuple #[.string b, .bool d]) := by rw [h, h']
theorem val_int {a b : Int} (h : a = b) : Value.int .i64 a = .int .i64 b := by rw [h]

theorem own_cells {w : World} {base : Nat} {e : TypeId} {g T c : Nat} {bs : List Int} (hown : w.ownsRow base e 1 (.slice (some ⟨g, 0, none⟩) T c) T (bs.map (Value.int .i64))) (hbl : bs.length = T) (o m : Nat) (h : o + m ≤ T) :
    ((bs.drop o).take m).length = m ∧ ∀ i, i < ((bs.drop o).take m).length → w.cell? ⟨g, o + i, none⟩ = some (.int .i64 (((bs.drop o).take m).getD i 0)) := by
  have hln : ((bs.drop o).take m).length = m := by rw [List.length_take, List.length_drop, hbl]; omega
  refine ⟨hln, ?_⟩
  intro i hi
  rw [hln] at hi
  have hi2 : o + i < bs.length := by rw [hbl]; omega
  have := hown.cells (g := g) rfl (o + i) (.int .i64 bs[o + i]) (by simp [hi2])
  rw [Addr.add_lit, show (0 : Nat) + (o + i) = o + i by omega] at this
  rw [this]
  have e : ((bs.drop o).take m).getD i 0 = bs[o + i] := by
    simp [List.getD, hi, List.getElem?_drop, hi2]
  rw [e]
theorem numB_seven (l : List Int) (h : 7 ≤ l.length) (hb : ∀ b ∈ l, b = 0 ∨ b = 1) : 4 * numB (l.take 5) ≤ numB (l.take 7) ∧ numB (l.take 7) ≤ 127 := by
  match l, h with
  | a :: b :: c :: d :: e :: f :: g :: t, _ =>
    have ha := hb a (by simp)
    have hb' := hb b (by simp)
    have hc := hb c (by simp)
    have hd := hb d (by simp)
    have he := hb e (by simp)
    have hf := hb f (by simp)
    have hg := hb g (by simp)
    simp [numB]
    omega

theorem unp_step {bs outL : List Int} {o n : Nat} {k x : Int} (hun : unp bs = (outL ++ (unp (bs.drop o)).1, (unp (bs.drop o)).2)) (hst : stepU (bs.drop o) = some (k, n)) (hx : WS.getD k.toNat 0 = x) :
    unp bs = ((outL ++ [x]) ++ (unp (bs.drop (o + n))).1, (unp (bs.drop (o + n))).2) := by
  have h := unp_some hst
  rw [List.drop_drop, hx] at h
  have h1 : (unp (bs.drop o)).1 = x :: (unp (bs.drop (o + n))).1 := by rw [h]
  have h2 : (unp (bs.drop o)).2 = (unp (bs.drop (o + n))).2 := by rw [h]
  rw [hun, h1, h2, List.append_assoc]
  rfl
theorem unp_end {bs outL : List Int} {o : Nat} (hun : unp bs = (outL ++ (unp (bs.drop o)).1, (unp (bs.drop o)).2)) (hst : stepU (bs.drop o) = none) : unp bs = (outL, bs.drop o) := by
  rw [hun, unp_none hst]
  simp
theorem all_snoc {l : List Int} {k : Nat} {y : Int} (hk : k < l.length) (hy : l[k] = y) : (l.take (k + 1)).all (fun b => b == 1) = ((l.take k).all (fun b => b == 1) && (y == 1)) := by
  rw [List.take_succ_eq_append_getElem hk, List.all_append, hy]
  simp
theorem val_bool {a b : Bool} (h : a = b) : Value.bool a = .bool b := by rw [h]

set_option maxRecDepth 100000 in
set_option maxHeartbeats 400000 in
theorem l2Unpack_none (w : World) :
    Calls Tryz.prog 97 #[.string ⟨#[]⟩] w fun e w' => e = .returned (.tuple #[.string ⟨#[]⟩, .bool true]) ∧ Below w.heap.size w w' := by
  go_enter Tryz.func97, Tryz.ntmps97
  go_wp2
  go_rounds 1
  go_rounds 1
  go_rounds 1
  go_ret2
  exact ⟨rfl, by go_grown⟩

set_option maxRecDepth 100000 in
set_option maxHeartbeats 2000000 in
theorem l2Unpack_some (s : ByteArray) (w : World) (h0 : 0 < s.size) (hz : s.size ≤ 16) :
    Calls Tryz.prog 97 #[.string s] w fun e w' => e = .returned (.tuple #[.string (strOfNums (unp (bytesB (bytesL s))).1), .bool (unpOk (unp (bytesB (bytesL s))))]) ∧ Below w.heap.size w w' := by
  obtain ⟨ii, hi, hz0, hz1, hz2⟩ := info_parts infoI
  go_enter Tryz.func97, Tryz.ntmps97
  go_wp2
  go_loopw [4, 5] (fun v i wr => ∃ k : Nat, k ≤ s.size ∧ i = .int .i64 k ∧ wr.ownsRow w.heap.size 3 1 v (8 * k) ((bytesB ((bytesL s).take k)).map (Value.int .i64)) ∧ Below w.heap.size w wr) (fun _ i _ => s.size - (intOf i).toNat)
  case atStart => exact ⟨0, by omega, rfl, own_zero _ _, Below.alloc (Below.refl _ _) (Nat.le_refl _) _⟩
  case round =>
    obtain ⟨k, hk, rfl, hown, hbel⟩ := hrel
    by_cases hlt : k < s.size
    · have hlt' : (k : Int) < s.size := by omega
      have hkl : k < (bytesL s).length := by rw [bytesL_length]; exact hlt
      obtain ⟨x, hx⟩ : ∃ x, (bytesL s)[k] = x := ⟨_, rfl⟩
      have hq : ((s[k]'hlt).toNat : Int) = x := by rw [bytesL_at, ← hx]
      obtain ⟨x0, x1⟩ := bytesL_bd s x (by rw [← hx]; exact List.getElem_mem hkl)
      have HS : Hid (bytesB ((bytesL s).take (k + 1)) = bytesB ((bytesL s).take k) ++ bitsL 8 x) := by
        show bytesB ((bytesL s).take (k + 1)) = bytesB ((bytesL s).take k) ++ bitsL 8 x
        rw [List.take_succ_eq_append_getElem hkl, bytesB_snoc, hx]
      clear hx hkl
      have hsz := hbel.size
      go_wp2_with fail
      refine (l2Bits8 _ _ x0 x1).mono ?_
      rintro e wz ⟨rfl, rfl⟩
      go_wp2_with (at_builtin; refine wpList_append_own _ rfl _ _ 60 rfl w.heap.size 3 ii (.int .i64 0) 1 8 Tryz.underlying60 hi hz0 hz1 hz2 rfl (by decide) _ _ _ rfl (hown.alloc _) ⟨wr.heap.size, 0, none⟩ 8 8 ((bitsL 8 x).map (Value.int .i64)) rfl ?c0 ?c1 ?c2 ?c3 ?c4 ?c5 ?_)
      case c0 => rw [List.length_map, bitsL_length]
      case c1 => exact cell_list _ _ _
      case c2 => exact ints_oneCell _ _
      case c3 => unfold maxLen; omega
      case c4 => omega
      case c5 => go_size
      intro v' w1 hown' hgrow _
      go_wp2
      go_roundw
      case rel =>
        refine ⟨k + 1, by omega, by go_num, ?_, ?_⟩
        · rw [HS.out, List.map_append, show 8 * (k + 1) = 8 * k + 8 by omega]; exact hown'
        · exact Below.grown (Below.alloc hbel hsz _) hgrow (by go_size) (fun q hq => (hown.lt q hq).1)
      case measure => simp [intOf]; omega
    · have hall : (bytesL s).take k = bytesL s := List.take_of_length_le (by rw [bytesL_length]; omega)
      rw [hall] at hown
      have hbit := bytesB_bit (bytesL s)
      have hbl := bytesB_length (bytesL s)
      rw [bytesL_length] at hbl
      obtain ⟨bs, hbs⟩ : ∃ bs, bytesB (bytesL s) = bs := ⟨_, rfl⟩
      have HU : Hid (unp (bytesB (bytesL s)) = unp bs) := by show unp (bytesB (bytesL s)) = unp bs; rw [hbs]
      rw [hbs] at hown hbit hbl
      obtain ⟨T, hT⟩ : ∃ T, 8 * k = T := ⟨_, rfl⟩
      rw [hT] at hown
      have hbl' : bs.length = T := by rw [hbl]; omega
      have hT8 : 8 ≤ T := by omega
      have hT128 : T ≤ 128 := by omega
      have HBL : Hid (bs.length = T) := hbl'
      have HBIT : Hid (∀ b ∈ bs, b = 0 ∨ b = 1) := hbit
      obtain ⟨a, c, hv⟩ := own_form hown
      clear hall hbs hT hbl hbl' hbit
      go_wp2
      rw [hv]
      rw [hv] at hown
      clear hv
      obtain ⟨g, rfl, hc1, hc2⟩ := own_addr hown (by omega)
      unfold maxLen at hc2
      have hc3 : (T : Int) ≤ c := by omega
      go_loopw [6, 4] (fun out v wr => ∃ (o : Nat) (outL : List Int) (a : Option Addr), o ≤ T ∧ v = .slice a (T - o) (c - o) ∧ (o < T → a = some ⟨g, o, none⟩) ∧ out = .string (strOfNums outL) ∧ outL.length * 5 ≤ o ∧ unp bs = (outL ++ (unp (bs.drop o)).1, (unp (bs.drop o)).2) ∧ wr.ownsRow w.heap.size 3 1 (.slice (some ⟨g, 0, none⟩) T c) T (bs.map (Value.int .i64)) ∧ Below w.heap.size w wr) (fun _ v _ => lenV v)
      case atStart => exact ⟨0, [], some ⟨g, 0, none⟩, by omega, rfl, fun _ => rfl, rfl, by simp, rfl, hown, hbel⟩
      case round =>
        clear hown hbel
        obtain ⟨o, outL, a, ho, rfl, ha, rfl, hol, hun, hown, hbel⟩ := hrel
        have HUN : Hid (unp bs = (outL ++ (unp (bs.drop o)).1, (unp (bs.drop o)).2)) := hun
        clear hun
        have hsz := hbel.size
        by_cases h5 : 5 ≤ T - o
        · obtain rfl := ha (by omega)
          clear ha
          have hT5 : (5 : Int) ≤ ((T - o : Nat) : Int) := by omega
          have hC5 : (5 : Int) ≤ ((c - o : Nat) : Int) := by omega
          have hCT : ((T - o : Nat) : Int) ≤ ((c - o : Nat) : Int) := by omega
          have hc5 := own_cells hown HBL.out o 5 (by omega)
          have HC5 : Hid (((bs.drop o).take 5).length = 5 ∧ ∀ i, i < ((bs.drop o).take 5).length → wr.cell? ⟨g, o + i, none⟩ = some (.int .i64 (((bs.drop o).take 5).getD i 0))) := hc5
          have hbd := numB_bd ((bs.drop o).take 5) (fun b hb => HBIT.out b (List.mem_of_mem_drop (List.mem_of_mem_take hb)))
          rw [hc5.1] at hbd
          obtain ⟨kn, hkn⟩ : ∃ kn : Nat, numB ((bs.drop o).take 5) = (kn : Int) := ⟨(numB ((bs.drop o).take 5)).toNat, by omega⟩
          have hkn1 : (kn : Int) < 32 := by omega
          have HKN : Hid (numB ((bs.drop o).take 5) = (kn : Int)) := hkn
          clear hc5 hbd hkn
          go_wp2_with fail
          refine (l2Num_any _ _ _ _ ((bs.drop o).take 5) _ HC5.out.1 (by decide) (fun b hb => HBIT.out b (List.mem_of_mem_drop (List.mem_of_mem_take hb))) HC5.out.2).mono ?_
          rw [HKN.out]
          rintro e wq ⟨rfl, rfl⟩
          by_cases h24 : kn < 24
          · have h24' : (kn : Int) < 24 := by omega
            have HST : Hid (stepU (bs.drop o) = some ((kn : Int), 5)) := by
              show stepU (bs.drop o) = some ((kn : Int), 5)
              unfold stepU
              rw [if_neg (by rw [List.length_drop, HBL.out]; omega), if_pos (by rw [HKN.out]; omega), HKN.out]
            have hq := WS_at kn (by show kn < 39; omega)
            obtain ⟨x, hx⟩ : ∃ x, WS.getD kn 0 = x := ⟨_, rfl⟩
            rw [hx] at hq
            have hxb := WS_bd x (by rw [← hx]; have : kn < WS.length := by rw [WS_length]; omega
                                    simp [List.getD, this])
            obtain ⟨x0, x1⟩ := hxb
            have HX : Hid (WS.getD kn 0 = x) := hx
            clear hx
            have hso : (strOfNums outL).size ≤ 100 := by rw [strOfNums_size]; omega
            have hs1 : ∀ x, (strOfNums [x]).size = 1 := fun _ => rfl
            go_wp2_with fail
            refine (l1Byte_any _ _ x0 x1).mono ?_
            rintro e w2 ⟨rfl, hb2⟩
            go_wp2
            go_roundw
            case rel =>
              have hv : Value.string (strOfNums outL ++ strOfNums [x]) = .string (strOfNums (outL ++ [x])) := val_str (strOfNums_append _ _)
              have hsl : ∀ z : Option Addr, Value.slice z (T - o - 5) (c - o - 5) = .slice z (T - (o + 5)) (c - (o + 5)) := fun z => by rw [Nat.sub_sub, Nat.sub_sub]
              refine ⟨o + 5, outL ++ [x], _, by omega, hsl _, fun h => if_neg (by omega), hv, by rw [List.length_append, List.length_singleton]; omega, unp_step HUN.out HST.out HX.out, own_below hown hb2, hbel.trans (hb2.mono hsz)⟩
            case measure => simp [lenV]; omega
          · have h24' : (24 : Int) ≤ kn := by omega
            by_cases h7 : 7 ≤ T - o
            · have hT7 : (7 : Int) ≤ ((T - o : Nat) : Int) := by omega
              have hC7 : (7 : Int) ≤ ((c - o : Nat) : Int) := by omega
              have hc7 := own_cells hown HBL.out o 7 (by omega)
              have HC7 : Hid (((bs.drop o).take 7).length = 7 ∧ ∀ i, i < ((bs.drop o).take 7).length → wq.cell? ⟨g, o + i, none⟩ = some (.int .i64 (((bs.drop o).take 7).getD i 0))) := hc7
              have hsev := numB_seven (bs.drop o) (by rw [List.length_drop, HBL.out]; omega) (fun b hb => HBIT.out b (List.mem_of_mem_drop hb))
              rw [HKN.out] at hsev
              obtain ⟨k7, hk7⟩ : ∃ k7 : Nat, numB ((bs.drop o).take 7) - 96 + 24 = (k7 : Int) := ⟨(numB ((bs.drop o).take 7) - 96 + 24).toNat, by omega⟩
              obtain ⟨q7, hq7⟩ : ∃ q7 : Int, numB ((bs.drop o).take 7) = q7 := ⟨_, rfl⟩
              have HQ7 : Hid (numB ((bs.drop o).take 7) = q7) := hq7
              have HK7 : Hid (numB ((bs.drop o).take 7) - 96 + 24 = (k7 : Int)) := hk7
              rw [hq7] at hk7 hsev
              have hq0 : 96 ≤ q7 := by omega
              have hq1 : q7 ≤ 127 := by omega
              clear hc7 hsev hq7
              go_wp2_with fail
              refine (l2Num_any _ _ _ _ ((bs.drop o).take 7) _ HC7.out.1 (by decide) (fun b hb => HBIT.out b (List.mem_of_mem_drop (List.mem_of_mem_take hb))) HC7.out.2).mono ?_
              rw [HQ7.out]
              rintro e wv ⟨rfl, rfl⟩
              by_cases h39 : k7 < 39
              · have h39' : (k7 : Int) < 39 := by omega
                have HST : Hid (stepU (bs.drop o) = some ((k7 : Int), 7)) := by
                  show stepU (bs.drop o) = some ((k7 : Int), 7)
                  unfold stepU
                  rw [if_neg (by rw [List.length_drop, HBL.out]; omega), if_neg (by rw [HKN.out]; omega), if_neg (by rw [List.length_drop, HBL.out]; omega), if_neg (by rw [HK7.out]; omega), HK7.out]
                have hq := WS_at k7 (by show k7 < 39; omega)
                obtain ⟨x, hx⟩ : ∃ x, WS.getD k7 0 = x := ⟨_, rfl⟩
                rw [hx] at hq
                have hxb := WS_bd x (by rw [← hx]; have : k7 < WS.length := by rw [WS_length]; omega
                                        simp [List.getD, this])
                obtain ⟨x0, x1⟩ := hxb
                have HX : Hid (WS.getD k7 0 = x) := hx
                clear hx
                have hso : (strOfNums outL).size ≤ 100 := by rw [strOfNums_size]; omega
                have hs1 : ∀ x, (strOfNums [x]).size = 1 := fun _ => rfl
                go_wp2_with fail
                refine (l1Byte_any _ _ x0 x1).mono ?_
                rintro e w2 ⟨rfl, hb2⟩
                go_wp2
                go_roundw
                case rel =>
                  have hv : Value.string (strOfNums outL ++ strOfNums [x]) = .string (strOfNums (outL ++ [x])) := val_str (strOfNums_append _ _)
                  have hsl : ∀ z : Option Addr, Value.slice z (T - o - 7) (c - o - 7) = .slice z (T - (o + 7)) (c - (o + 7)) := fun z => by rw [Nat.sub_sub, Nat.sub_sub]
                  refine ⟨o + 7, outL ++ [x], _, by omega, hsl _, fun h => if_neg (by omega), hv, by rw [List.length_append, List.length_singleton]; omega, unp_step HUN.out HST.out HX.out, own_below hown hb2, hbel.trans (hb2.mono hsz)⟩
                case measure => simp [lenV]; omega
              · have h39' : (39 : Int) ≤ k7 := by omega
                have ha : o < T → (some ⟨g, o, none⟩ : Option Addr) = some ⟨g, o, none⟩ := fun _ => rfl
                have HST : Hid (stepU (bs.drop o) = none) := by
                  show stepU (bs.drop o) = none
                  unfold stepU
                  rw [if_neg (by rw [List.length_drop, HBL.out]; omega), if_neg (by rw [HKN.out]; omega), if_neg (by rw [List.length_drop, HBL.out]; omega), if_pos (by rw [HK7.out]; omega)]
                have hend := unp_end HUN.out HST.out
                have HE : Hid (unp bs = (outL, bs.drop o)) := hend
                clear hend
                obtain ⟨R, hR⟩ : ∃ R, T - o = R := ⟨_, rfl⟩
                have hRl : (bs.drop o).length = R := by rw [List.length_drop, HBL.out]; exact hR
                obtain ⟨rest, hrest⟩ : ∃ rest, bs.drop o = rest := ⟨_, rfl⟩
                have hcells : 0 < R → (some ⟨g, o, none⟩ : Option Addr) = some ⟨g, o, none⟩ ∧ ∀ i (hi : i < rest.length), wv.cell? ⟨g, o + i, none⟩ = some (.int .i64 rest[i]) := by
                  intro h
                  refine ⟨ha (by omega), ?_⟩
                  intro i hi
                  subst hrest
                  have hi2 : o + i < bs.length := by rw [List.length_drop] at hi; omega
                  have := hown.cells (g := g) rfl (o + i) (.int .i64 bs[o + i]) (by simp [hi2])
                  rw [Addr.add_lit, show (0 : Nat) + (o + i) = o + i by omega] at this
                  rw [this]
                  simp
                have HCE : Hid (0 < R → (some ⟨g, o, none⟩ : Option Addr) = some ⟨g, o, none⟩ ∧ ∀ i (hi : i < rest.length), wv.cell? ⟨g, o + i, none⟩ = some (.int .i64 rest[i])) := hcells
                rw [hrest] at hRl
                have HRL : Hid (rest.length = R) := hRl
                have HFIN : Hid (unp (bytesB (bytesL s)) = (outL, rest)) := by show unp (bytesB (bytesL s)) = (outL, rest); rw [HU.out, HE.out, hrest]
                have hRc : (R : Int) ≤ ((c - o : Nat) : Int) := by omega
                have hRm : R ≤ 128 := by omega
                have hso : (strOfNums outL).size ≤ 100 := by rw [strOfNums_size]; omega
                clear hcells hRl hrest ha HE HST HUN
                go_wp2
                try rw [hR]
                clear hR
                go_loop [9, 10] (fun ones i => ∃ k : Nat, k ≤ R ∧ i = .int .i64 k ∧ ones = .bool ((rest.take k).all fun b => b == 1)) (fun _ i => R - (intOf i).toNat)
                case atStart => exact ⟨0, by omega, rfl, rfl⟩
                case round =>
                  obtain ⟨m, hm, rfl, rfl⟩ := hrel
                  obtain ⟨A, hA⟩ : ∃ A, ((rest.take m).all fun b => b == 1) = A := ⟨_, rfl⟩
                  rw [hA]
                  have HA : Hid (((rest.take m).all fun b => b == 1) = A) := hA
                  clear hA
                  by_cases hlt : m < R
                  · have hlt' : (m : Int) < R := by omega
                    have hml : m < rest.length := by rw [HRL.out]; exact hlt
                    obtain ⟨y, hy⟩ : ∃ y, rest[m] = y := ⟨_, rfl⟩
                    have hc := (HCE.out (by omega)).2 m hml
                    rw [hy] at hc
                    have haa := (HCE.out (by omega)).1
                    have HN : Hid (((rest.take (m + 1)).all fun b => b == 1) = (A && (y == 1))) := by
                      show ((rest.take (m + 1)).all fun b => b == 1) = (A && (y == 1))
                      rw [all_snoc hml hy, HA.out]
                    clear hy hml
                    cases A with
                    | false =>
                      go_wp2
                      go_round
                      case rel => exact ⟨m + 1, by omega, by go_num, val_bool (by rw [HN.out]; rfl)⟩
                      case measure => simp [intOf]; omega
                    | true =>
                      go_wp2
                      go_round
                      case rel => exact ⟨m + 1, by omega, by go_num, val_bool (by rw [HN.out]; rfl)⟩
                      case measure => simp [intOf]; omega
                  · have hmR : m = R := by omega
                    have HAL : Hid ((rest.all fun b => b == 1) = A) := by
                      show (rest.all fun b => b == 1) = A
                      rw [← HA.out, List.take_of_length_le (by rw [HRL.out]; omega)]
                    clear hmR
                    cases A with
                    | false =>
                      go_wp2
                      go_ret2
                      refine ⟨ret_sb (by rw [HFIN.out]) ?_, hbel⟩
                      rw [HFIN.out]; unfold unpOk; rw [HAL.out]; rfl
                    | true =>
                      by_cases h8 : R < 8
                      · have h8' : (R : Int) < 8 := by omega
                        go_wp2
                        go_ret2
                        refine ⟨ret_sb (by rw [HFIN.out]) ?_, hbel⟩
                        rw [HFIN.out]; unfold unpOk; rw [HAL.out, HRL.out, strOfNums_size]; simp [h8]; omega
                      · have h8' : (8 : Int) ≤ R := by omega
                        first
                          | (exfalso; omega)
                          | (go_wp2
                             go_ret2
                             refine ⟨ret_sb (by rw [HFIN.out]) ?_, hbel⟩
                             rw [HFIN.out]; unfold unpOk; rw [HAL.out, HRL.out]; simp [h8])
            · have hT7 : ((T - o : Nat) : Int) < 7 := by omega
              have ha : o < T → (some ⟨g, o, none⟩ : Option Addr) = some ⟨g, o, none⟩ := fun _ => rfl
              have HST : Hid (stepU (bs.drop o) = none) := by
                show stepU (bs.drop o) = none
                unfold stepU
                rw [if_neg (by rw [List.length_drop, HBL.out]; omega), if_neg (by rw [HKN.out]; omega), if_pos (by rw [List.length_drop, HBL.out]; omega)]
              have hend := unp_end HUN.out HST.out
              have HE : Hid (unp bs = (outL, bs.drop o)) := hend
              clear hend
              obtain ⟨R, hR⟩ : ∃ R, T - o = R := ⟨_, rfl⟩
              have hRl : (bs.drop o).length = R := by rw [List.length_drop, HBL.out]; exact hR
              obtain ⟨rest, hrest⟩ : ∃ rest, bs.drop o = rest := ⟨_, rfl⟩
              have hcells : 0 < R → (some ⟨g, o, none⟩ : Option Addr) = some ⟨g, o, none⟩ ∧ ∀ i (hi : i < rest.length), wq.cell? ⟨g, o + i, none⟩ = some (.int .i64 rest[i]) := by
                intro h
                refine ⟨ha (by omega), ?_⟩
                intro i hi
                subst hrest
                have hi2 : o + i < bs.length := by rw [List.length_drop] at hi; omega
                have := hown.cells (g := g) rfl (o + i) (.int .i64 bs[o + i]) (by simp [hi2])
                rw [Addr.add_lit, show (0 : Nat) + (o + i) = o + i by omega] at this
                rw [this]
                simp
              have HCE : Hid (0 < R → (some ⟨g, o, none⟩ : Option Addr) = some ⟨g, o, none⟩ ∧ ∀ i (hi : i < rest.length), wq.cell? ⟨g, o + i, none⟩ = some (.int .i64 rest[i])) := hcells
              rw [hrest] at hRl
              have HRL : Hid (rest.length = R) := hRl
              have HFIN : Hid (unp (bytesB (bytesL s)) = (outL, rest)) := by show unp (bytesB (bytesL s)) = (outL, rest); rw [HU.out, HE.out, hrest]
              have hRc : (R : Int) ≤ ((c - o : Nat) : Int) := by omega
              have hRm : R ≤ 128 := by omega
              have hso : (strOfNums outL).size ≤ 100 := by rw [strOfNums_size]; omega
              clear hcells hRl hrest ha HE HST HUN
              go_wp2
              try rw [hR]
              clear hR
              go_loop [9, 10] (fun ones i => ∃ k : Nat, k ≤ R ∧ i = .int .i64 k ∧ ones = .bool ((rest.take k).all fun b => b == 1)) (fun _ i => R - (intOf i).toNat)
              case atStart => exact ⟨0, by omega, rfl, rfl⟩
              case round =>
                obtain ⟨m, hm, rfl, rfl⟩ := hrel
                obtain ⟨A, hA⟩ : ∃ A, ((rest.take m).all fun b => b == 1) = A := ⟨_, rfl⟩
                rw [hA]
                have HA : Hid (((rest.take m).all fun b => b == 1) = A) := hA
                clear hA
                by_cases hlt : m < R
                · have hlt' : (m : Int) < R := by omega
                  have hml : m < rest.length := by rw [HRL.out]; exact hlt
                  obtain ⟨y, hy⟩ : ∃ y, rest[m] = y := ⟨_, rfl⟩
                  have hc := (HCE.out (by omega)).2 m hml
                  rw [hy] at hc
                  have haa := (HCE.out (by omega)).1
                  have HN : Hid (((rest.take (m + 1)).all fun b => b == 1) = (A && (y == 1))) := by
                    show ((rest.take (m + 1)).all fun b => b == 1) = (A && (y == 1))
                    rw [all_snoc hml hy, HA.out]
                  clear hy hml
                  cases A with
                  | false =>
                    go_wp2
                    go_round
                    case rel => exact ⟨m + 1, by omega, by go_num, val_bool (by rw [HN.out]; rfl)⟩
                    case measure => simp [intOf]; omega
                  | true =>
                    go_wp2
                    go_round
                    case rel => exact ⟨m + 1, by omega, by go_num, val_bool (by rw [HN.out]; rfl)⟩
                    case measure => simp [intOf]; omega
                · have hmR : m = R := by omega
                  have HAL : Hid ((rest.all fun b => b == 1) = A) := by
                    show (rest.all fun b => b == 1) = A
                    rw [← HA.out, List.take_of_length_le (by rw [HRL.out]; omega)]
                  clear hmR
                  cases A with
                  | false =>
                    go_wp2
                    go_ret2
                    refine ⟨ret_sb (by rw [HFIN.out]) ?_, hbel⟩
                    rw [HFIN.out]; unfold unpOk; rw [HAL.out]; rfl
                  | true =>
                    by_cases h8 : R < 8
                    · have h8' : (R : Int) < 8 := by omega
                      go_wp2
                      go_ret2
                      refine ⟨ret_sb (by rw [HFIN.out]) ?_, hbel⟩
                      rw [HFIN.out]; unfold unpOk; rw [HAL.out, HRL.out, strOfNums_size]; simp [h8]; omega
                    · have h8' : (8 : Int) ≤ R := by omega
                      first
                        | (exfalso; omega)
                        | (go_wp2
                           go_ret2
                           refine ⟨ret_sb (by rw [HFIN.out]) ?_, hbel⟩
                           rw [HFIN.out]; unfold unpOk; rw [HAL.out, HRL.out]; simp [h8])
        · have hT5 : ((T - o : Nat) : Int) < 5 := by omega
          have HST : Hid (stepU (bs.drop o) = none) := by
            show stepU (bs.drop o) = none
            unfold stepU
            rw [if_pos (by rw [List.length_drop, HBL.out]; omega)]
          have hend := unp_end HUN.out HST.out
          have HE : Hid (unp bs = (outL, bs.drop o)) := hend
          clear hend
          obtain ⟨R, hR⟩ : ∃ R, T - o = R := ⟨_, rfl⟩
          have hRl : (bs.drop o).length = R := by rw [List.length_drop, HBL.out]; exact hR
          obtain ⟨rest, hrest⟩ : ∃ rest, bs.drop o = rest := ⟨_, rfl⟩
          have hcells : 0 < R → a = some ⟨g, o, none⟩ ∧ ∀ i (hi : i < rest.length), wr.cell? ⟨g, o + i, none⟩ = some (.int .i64 rest[i]) := by
            intro h
            refine ⟨ha (by omega), ?_⟩
            intro i hi
            subst hrest
            have hi2 : o + i < bs.length := by rw [List.length_drop] at hi; omega
            have := hown.cells (g := g) rfl (o + i) (.int .i64 bs[o + i]) (by simp [hi2])
            rw [Addr.add_lit, show (0 : Nat) + (o + i) = o + i by omega] at this
            rw [this]
            simp
          have HCE : Hid (0 < R → a = some ⟨g, o, none⟩ ∧ ∀ i (hi : i < rest.length), wr.cell? ⟨g, o + i, none⟩ = some (.int .i64 rest[i])) := hcells
          rw [hrest] at hRl
          have HRL : Hid (rest.length = R) := hRl
          have HFIN : Hid (unp (bytesB (bytesL s)) = (outL, rest)) := by show unp (bytesB (bytesL s)) = (outL, rest); rw [HU.out, HE.out, hrest]
          have hRc : (R : Int) ≤ ((c - o : Nat) : Int) := by omega
          have hRm : R ≤ 128 := by omega
          have hso : (strOfNums outL).size ≤ 100 := by rw [strOfNums_size]; omega
          clear hcells hRl hrest ha HE HST HUN
          go_wp2
          try rw [hR]
          clear hR
          go_loop [9, 10] (fun ones i => ∃ k : Nat, k ≤ R ∧ i = .int .i64 k ∧ ones = .bool ((rest.take k).all fun b => b == 1)) (fun _ i => R - (intOf i).toNat)
          case atStart => exact ⟨0, by omega, rfl, rfl⟩
          case round =>
            obtain ⟨m, hm, rfl, rfl⟩ := hrel
            obtain ⟨A, hA⟩ : ∃ A, ((rest.take m).all fun b => b == 1) = A := ⟨_, rfl⟩
            rw [hA]
            have HA : Hid (((rest.take m).all fun b => b == 1) = A) := hA
            clear hA
            by_cases hlt : m < R
            · have hlt' : (m : Int) < R := by omega
              have hml : m < rest.length := by rw [HRL.out]; exact hlt
              obtain ⟨y, hy⟩ : ∃ y, rest[m] = y := ⟨_, rfl⟩
              have hc := (HCE.out (by omega)).2 m hml
              rw [hy] at hc
              have haa := (HCE.out (by omega)).1
              have HN : Hid (((rest.take (m + 1)).all fun b => b == 1) = (A && (y == 1))) := by
                show ((rest.take (m + 1)).all fun b => b == 1) = (A && (y == 1))
                rw [all_snoc hml hy, HA.out]
              clear hy hml
              cases A with
              | false =>
                go_wp2
                go_round
                case rel => exact ⟨m + 1, by omega, by go_num, val_bool (by rw [HN.out]; rfl)⟩
                case measure => simp [intOf]; omega
              | true =>
                go_wp2
                go_round
                case rel => exact ⟨m + 1, by omega, by go_num, val_bool (by rw [HN.out]; rfl)⟩
                case measure => simp [intOf]; omega
            · have hmR : m = R := by omega
              have HAL : Hid ((rest.all fun b => b == 1) = A) := by
                show (rest.all fun b => b == 1) = A
                rw [← HA.out, List.take_of_length_le (by rw [HRL.out]; omega)]
              clear hmR
              cases A with
              | false =>
                go_wp2
                go_ret2
                refine ⟨ret_sb (by rw [HFIN.out]) ?_, hbel⟩
                rw [HFIN.out]; unfold unpOk; rw [HAL.out]; rfl
              | true =>
                by_cases h8 : R < 8
                · have h8' : (R : Int) < 8 := by omega
                  go_wp2
                  go_ret2
                  refine ⟨ret_sb (by rw [HFIN.out]) ?_, hbel⟩
                  rw [HFIN.out]; unfold unpOk; rw [HAL.out, HRL.out, strOfNums_size]; simp [h8]; omega
                · have h8' : (8 : Int) ≤ R := by omega
                  first
                    | (exfalso; omega)
                    | (go_wp2
                       go_ret2
                       refine ⟨ret_sb (by rw [HFIN.out]) ?_, hbel⟩
                       rw [HFIN.out]; unfold unpOk; rw [HAL.out, HRL.out]; simp [h8])
end Go.Proofs.YtbhoafiolalgaaaGreat

namespace Go.Proofs.YtbhoafiolalgaaaGreat
open Go.RowKit
set_option linter.unusedVariables false

/-- Texts of numbers. -/
theorem wOk_signs {l : List Int} (h : wOk l = true) : (∀ c ∈ l, 0 ≤ sgn c) ∧ l.length ≤ 16 := by
  unfold wOk at h
  rw [Bool.and_eq_true, List.all_eq_true] at h
  exact ⟨fun c hc => by simpa using h.1 c hc, by simpa using h.2⟩
/-- What WordPack answers. -/
def packV (s : ByteArray) : ByteArray := if wOk (bytesL s) then strOfNums (packL (bytesL s)) else ⟨#[]⟩
/-- What WordUnpack answers. -/
def unpV (s : ByteArray) : ByteArray × Bool := match unpL (bytesL s) with
  | some o => (strOfNums o, true)
  | none => (⟨#[]⟩, false)
theorem packL_length (l : List Int) (h : l.length ≤ 16) : (packL l).length ≤ 14 := by
  unfold packL
  rw [chunkN_length]
  have h1 := (padB_length (packB l)).2.2
  have h2 := packB_length l
  omega
theorem packL_bd (l : List Int) : ∀ x ∈ packL l, 0 ≤ x ∧ x ≤ 255 := chunkN_bd _ (padB_bit _ (packB_bit l)) _

theorem size_zero {s : ByteArray} (h : s.size = 0) : s = ⟨#[]⟩ := by
  apply ByteArray.ext
  apply Array.eq_empty_of_size_eq_zero
  exact h

theorem l2Unpack_any (s : ByteArray) (w : World) (hz : s.size ≤ 16) :
    Calls Tryz.prog 97 #[.string s] w fun e w' => e = .returned (.tuple #[.string (strOfNums (unp (bytesB (bytesL s))).1), .bool (unpOk (unp (bytesB (bytesL s))))]) ∧ Below w.heap.size w w' := by
  by_cases h : s.size = 0
  · obtain rfl := size_zero h
    exact l2Unpack_none w
  · exact l2Unpack_some s w (by omega) hz

set_option maxRecDepth 100000 in
set_option maxHeartbeats 400000 in
theorem specUnpack (s : ByteArray) (w : World) (hm : s.size ≤ maxLen) :
    Calls Tryz.prog 91 #[.string s] w fun e w' => e = .returned (.tuple #[.string (unpV s).1, .bool (unpV s).2]) ∧ Below w.heap.size w w' := by
  unfold maxLen at hm
  by_cases h16 : (16 : Int) < s.size
  · have HV : Hid (unpV s = (⟨#[]⟩, false)) := by show unpV s = _; unfold unpV unpL; rw [if_pos (by rw [bytesL_length]; omega)]
    go_enter Tryz.func91, Tryz.ntmps91
    go_wp2
    go_ret2
    exact ⟨ret_sb (by rw [HV.out]) (by rw [HV.out]), Below.refl _ _⟩
  · have hU : unpL (bytesL s) = if unpOk (unp (bytesB (bytesL s))) then some (unp (bytesB (bytesL s))).1 else none := by unfold unpL; rw [if_neg (by rw [bytesL_length]; omega)]
    have HU : Hid (unpL (bytesL s) = if unpOk (unp (bytesB (bytesL s))) then some (unp (bytesB (bytesL s))).1 else none) := hU
    clear hU
    go_enter Tryz.func91, Tryz.ntmps91
    go_wp2_with fail
    refine (l2Unpack_any _ _ (by omega)).mono ?_
    obtain ⟨ok, hok⟩ : ∃ ok, unpOk (unp (bytesB (bytesL s))) = ok := ⟨_, rfl⟩
    rw [hok]
    have HK : Hid (unpOk (unp (bytesB (bytesL s))) = ok) := hok
    clear hok
    rintro e wb ⟨rfl, hb⟩
    cases ok with
    | false =>
      have HV : Hid (unpV s = (⟨#[]⟩, false)) := by show unpV s = _; unfold unpV; rw [HU.out, HK.out]; rfl
      go_wp2
      go_ret2
      exact ⟨ret_sb (by rw [HV.out]) (by rw [HV.out]), hb⟩
    | true =>
      have HV : Hid (unpV s = (strOfNums (unp (bytesB (bytesL s))).1, true)) := by show unpV s = _; unfold unpV; rw [HU.out, HK.out]; rfl
      go_wp2
      go_ret2
      exact ⟨ret_sb (by rw [HV.out]) (by rw [HV.out]), hb⟩

/-- A word in bytes, with how long it is. -/
def wrL (l : List Int) : List Int := if (packL l).length < l.length then (128 + (packL l).length : Int) :: packL l else (l.length : Int) :: l
/-- What WordWrite answers. -/
def wrV (s : ByteArray) : ByteArray := if wOk (bytesL s) then strOfNums (wrL (bytesL s)) else ⟨#[]⟩
theorem numS7 (n head : Int) (h0 : n < 127) : numS n 7 head = strOfNums [head * 128 + n] := by
  unfold numS
  unfold numL
  rw [if_pos (by rw [pw7]; omega), pw7]

set_option maxRecDepth 100000 in
set_option maxHeartbeats 400000 in
theorem l2Write_any (s : ByteArray) (w : World) (hz : s.size ≤ 16) (hok : ∀ c ∈ bytesL s, 0 ≤ sgn c) :
    Calls Tryz.prog 34 #[.string s] w fun e w' => e = .returned (.string (strOfNums (wrL (bytesL s)))) ∧ Below w.heap.size w w' := by
  have HOK : Hid (∀ c ∈ bytesL s, 0 ≤ sgn c) := hok
  clear hok
  obtain ⟨p, hp⟩ : ∃ p, packL (bytesL s) = p := ⟨_, rfl⟩
  have hpl := packL_length (bytesL s) (by rw [bytesL_length]; exact hz)
  have HW : Hid (wrL (bytesL s) = if p.length < s.size then (128 + p.length : Int) :: p else (s.size : Int) :: bytesL s) := by
    show wrL (bytesL s) = _
    unfold wrL; rw [hp, bytesL_length]
  rw [hp] at hpl
  have HP : Hid (packL (bytesL s) = p) := hp
  clear hp
  have hps : (strOfNums p).size = p.length := strOfNums_size p
  have HPS : Hid ((strOfNums p).size = p.length) := hps
  have hps2 : (strOfNums p).size ≤ 14 := by omega
  clear hps
  go_enter Tryz.func34, Tryz.ntmps34
  go_wp2_with fail
  refine (l2Pack_any _ _ hz HOK.out).mono ?_
  rw [HP.out]
  rintro e wa ⟨rfl, hb⟩
  by_cases hlt : (strOfNums p).size < s.size
  · have hlt' : ((strOfNums p).size : Int) < s.size := by omega
    have HN : Hid (numS ((strOfNums p).size : Int) 7 1 = strOfNums [128 + (p.length : Int)]) := by
      show numS ((strOfNums p).size : Int) 7 1 = strOfNums [128 + (p.length : Int)]
      rw [numS7 _ _ (by omega), HPS.out, Int.one_mul]
    have hs1 : ∀ x, (strOfNums [x]).size = 1 := fun _ => rfl
    go_wp2_with fail
    refine (l1Write_ok _ _ _ _ ⟨by decide, by decide, by omega, by omega, by decide, by decide⟩).mono ?_
    rw [HN.out]
    rintro e wb ⟨rfl, hb2⟩
    go_wp2
    go_ret
    refine ⟨ret_str ?_, hb.trans (hb2.mono hb.size)⟩
    rw [strOfNums_append, HW.out, if_pos (by rw [← HPS.out]; exact hlt)]; rfl
  · have hlt' : (s.size : Int) ≤ (strOfNums p).size := by omega
    have HN : Hid (numS (s.size : Int) 7 0 = strOfNums [(s.size : Int)]) := by
      show numS (s.size : Int) 7 0 = strOfNums [(s.size : Int)]
      rw [numS7 _ _ (by omega), Int.zero_mul, Int.zero_add]
    have hs1 : ∀ x, (strOfNums [x]).size = 1 := fun _ => rfl
    go_wp2_with fail
    refine (l1Write_ok _ _ _ _ ⟨by decide, by decide, by omega, by omega, by decide, by decide⟩).mono ?_
    rw [HN.out]
    rintro e wb ⟨rfl, hb2⟩
    go_wp2
    go_ret
    refine ⟨ret_str ?_, hb.trans (hb2.mono hb.size)⟩
    rw [HW.out, if_neg (by rw [← HPS.out]; exact hlt)]
    have := strOfNums_append [(s.size : Int)] (bytesL s)
    rw [strOfNums_bytesL] at this
    rw [this]; rfl

set_option maxRecDepth 100000 in
set_option maxHeartbeats 400000 in
theorem specWrite (s : ByteArray) (w : World) (hm : s.size ≤ maxLen) :
    Calls Tryz.prog 18 #[.string s] w fun e w' => e = .returned (.string (wrV s)) ∧ Below w.heap.size w w' := by
  have HM : Hid (s.size ≤ maxLen) := hm
  clear hm
  by_cases h : wOk (bytesL s) = true
  · have HS : Hid (wrV s = strOfNums (wrL (bytesL s))) := by show wrV s = _; unfold wrV; rw [if_pos h]
    have HW := wOk_signs h
    have HH : Hid ((∀ c ∈ bytesL s, 0 ≤ sgn c) ∧ s.size ≤ 16) := by rw [bytesL_length] at HW; exact HW
    clear HW
    go_enter Tryz.func18, Tryz.ntmps18
    go_wp2_with fail
    refine (specWordOk _ _ HM.out).mono ?_
    rw [h]
    rintro e wa ⟨rfl, rfl⟩
    go_wp2_with fail
    refine (l2Write_any _ _ HH.out.2 HH.out.1).mono ?_
    rintro e wb ⟨rfl, hb⟩
    go_wp2
    go_ret
    exact ⟨ret_str (by rw [HS.out]), hb⟩
  · have h' : wOk (bytesL s) = false := by simpa using h
    have HS : Hid (wrV s = ⟨#[]⟩) := by show wrV s = _; unfold wrV; rw [if_neg h]
    clear h
    go_enter Tryz.func18, Tryz.ntmps18
    go_wp2_with fail
    refine (specWordOk _ _ HM.out).mono ?_
    rw [h']
    rintro e wa ⟨rfl, rfl⟩
    go_wp2
    go_ret
    exact ⟨ret_str (by rw [HS.out]), Below.refl _ _⟩
theorem packV_size (s : ByteArray) : (packV s).size ≤ 14 := by
  unfold packV
  by_cases h : wOk (bytesL s) = true
  · rw [if_pos h, strOfNums_size]
    exact packL_length _ (wOk_signs h).2
  · rw [if_neg h]; decide

theorem wrV_size (s : ByteArray) : (wrV s).size ≤ 17 := by
  unfold wrV
  by_cases h : wOk (bytesL s) = true
  · rw [if_pos h, strOfNums_size]
    have h2 := (wOk_signs h).2
    have h1 := packL_length _ h2
    unfold wrL
    split
    · simp; omega
    · simp; omega
  · rw [if_neg h]; decide

end Go.Proofs.YtbhoafiolalgaaaGreat

namespace Go.Proofs.YtbhoafiolalgaaaGreat
open Go.RowKit
set_option linter.unusedVariables false

/-- The word at the beginning of bytes, and how many bytes it has. -/
def rdWL : List Int → Option (List Int × Int)
  | [] => none
  | a :: t => if 16 < a % 128 then none else if (t.length : Int) < a % 128 then none
    else if 128 ≤ a then (unpL (t.take (a % 128).toNat)).map (fun o => (o, 1 + a % 128))
    else if wOk (t.take (a % 128).toNat) then some (t.take (a % 128).toNat, 1 + a % 128) else none
theorem rdWL_cons (a : Int) (t : List Int) : rdWL (a :: t) = if 16 < a % 128 then none else if (t.length : Int) < a % 128 then none
    else if 128 ≤ a then (unpL (t.take (a % 128).toNat)).map (fun o => (o, 1 + a % 128))
    else if wOk (t.take (a % 128).toNat) then some (t.take (a % 128).toNat, 1 + a % 128) else none := rfl
/-- What WordRead answers. -/
def rdWV (s : ByteArray) : ByteArray × Int × Bool := match rdWL (bytesL s) with
  | some (o, u) => (strOfNums o, u, true)
  | none => (⟨#[]⟩, 0, false)
theorem rd_big (a : Int) (t : List Int) (ht : ∀ x ∈ t, 0 ≤ x ∧ x ≤ 255) (h : ¬ a % 128 < 127) : (rd 128 (a :: t)).2.2 = false ∨ 16 < (rd 128 (a :: t)).1 := by
  match t, ht with
  | [], _ => rw [rd1, if_neg (by omega)]; exact .inl rfl
  | [b], ht =>
    have hb := ht b (by simp)
    rw [rd2, if_neg (by omega)]
    by_cases h1 : b < 128
    · rw [if_pos h1]; exact .inr (by show (16 : Int) < 128 - 1 + b; omega)
    · rw [if_neg h1]; exact .inl rfl
  | b :: c :: u, ht =>
    have hb := ht b (by simp)
    have hc := ht c (by simp)
    rw [rd3, if_neg (by omega)]
    by_cases h1 : b < 128
    · rw [if_pos h1]; exact .inr (by show (16 : Int) < 128 - 1 + b; omega)
    · rw [if_neg h1]
      by_cases h2 : 128 ≤ c ∨ c = 0 ∨ 9999 < 128 - 1 + (b - 128) + 128 * c
      · rw [if_pos h2]; exact .inl rfl
      · rw [if_neg h2]; exact .inr (by show (16 : Int) < 128 - 1 + (b - 128) + 128 * c; omega)
theorem ret_sib {a b : ByteArray} {m n : Int} {c d : Bool} (h : a = b) (h1 : m = n) (h' : c = d) : Ending.returned (.tuple #[.string a, .int .i64 m, .bool c]) = .returned (.tuple #[.string b, .int .i64 n, .bool d]) := by rw [h, h1, h']

set_option maxRecDepth 100000 in
set_option maxHeartbeats 400000 in
theorem l2Read_no (s : ByteArray) (n u : Int) (ok : Bool) (w : World) (hm : s.size ≤ maxLen) (hrd : rd 128 (bytesL s) = (n, u, ok)) (h : ok = false ∨ 16 < n) (n1 : n ≤ 10000) :
    Calls Tryz.prog 80 #[.string s] w fun e w' => e = .returned (.tuple #[.string ⟨#[]⟩, .int .i64 0, .bool false]) ∧ Below w.heap.size w w' := by
  have HM : Hid (s.size ≤ maxLen) := hm
  have HRD : Hid (rd 128 (bytesL s) = (n, u, ok)) := hrd
  unfold maxLen at hm
  clear hrd
  cases ok with
  | false =>
    clear h
    go_enter Tryz.func80, Tryz.ntmps80
    go_wp2_with fail
    refine (sr7 _ _ HM.out).mono ?_
    rw [HRD.out]
    unfold tupV
    rintro e wa ⟨rfl, rfl⟩
    go_wp2
    go_ret3
    exact ⟨rfl, Below.refl _ _⟩
  | true =>
    have h16 : 16 < n := by simpa using h
    clear h
    go_enter Tryz.func80, Tryz.ntmps80
    go_wp2_with fail
    refine (sr7 _ _ HM.out).mono ?_
    rw [HRD.out]
    unfold tupV
    rintro e wa ⟨rfl, rfl⟩
    go_wp2
    go_ret3
    exact ⟨rfl, Below.refl _ _⟩

set_option maxRecDepth 100000 in
set_option maxHeartbeats 1000000 in
theorem l2Read_yes (s : ByteArray) (a : Int) (t : List Int) (w : World) (hm : s.size ≤ maxLen) (hl : bytesL s = a :: t) (h16 : ¬ 16 < a % 128) :
    Calls Tryz.prog 80 #[.string s] w fun e w' => e = .returned (.tuple #[.string (rdWV s).1, .int .i64 (rdWV s).2.1, .bool (rdWV s).2.2]) ∧ Below w.heap.size w w' := by
  have HM : Hid (s.size ≤ maxLen) := hm
  unfold maxLen at hm
  obtain ⟨hk, q0, x0, x1⟩ := of_cons (k := 0) (x := a) hl rfl
  have hrd : rd 128 (bytesL s) = (a % 128, 1, true) := by
    rw [hl]
    match t with
    | [] => rw [rd1, if_pos (by omega)]
    | [b] => rw [rd2, if_pos (by omega)]
    | b :: c :: u => rw [rd3, if_pos (by omega)]
  have HRD : Hid (rd 128 (bytesL s) = (a % 128, 1, true)) := hrd
  have hlen : s.size = t.length + 1 := by rw [← bytesL_length, hl]; rfl
  obtain ⟨n, hn⟩ : ∃ n : Nat, a % 128 = (n : Int) := ⟨(a % 128).toNat, by omega⟩
  have hn16 : (n : Int) ≤ 16 := by omega
  have HW : Hid (rdWL (bytesL s) = if (t.length : Int) < a % 128 then none else if 128 ≤ a then (unpL (t.take (a % 128).toNat)).map (fun o => (o, 1 + a % 128)) else if wOk (t.take (a % 128).toNat) then some (t.take (a % 128).toNat, 1 + a % 128) else none) := by
    show rdWL (bytesL s) = _
    rw [hl, rdWL_cons, if_neg h16]
  have HN : Hid (a % 128 = (n : Int)) := hn
  have HT : Hid (s.size = t.length + 1) := hlen
  clear hrd hn hlen h16
  by_cases hfit : (s.size : Int) < 1 + n
  · have HV : Hid (rdWV s = (⟨#[]⟩, 0, false)) := by
      show rdWV s = _
      unfold rdWV
      rw [HW.out, if_pos (by have := HT.out; have := HN.out; omega)]
    go_enter Tryz.func80, Tryz.ntmps80
    go_wp2_with fail
    refine (sr7 _ _ HM.out).mono ?_
    rw [HRD.out, HN.out]
    unfold tupV
    rintro e wa ⟨rfl, rfl⟩
    go_wp2
    go_ret3
    exact ⟨ret_sib (by rw [HV.out]) (by rw [HV.out]) (by rw [HV.out]), Below.refl _ _⟩
  · have hfit' : 1 + (n : Int) ≤ s.size := by omega
    have hx : bytesL (s.extract 1 (1 + n)) = t.take n := by
      rw [bytesL_extract, hl, Nat.add_comm 1 n, List.take_succ_cons]; rfl
    have HX : Hid (bytesL (s.extract 1 (1 + n)) = t.take n) := hx
    have HXM : Hid ((s.extract 1 (1 + n)).size ≤ maxLen) := by
      show (s.extract 1 (1 + n)).size ≤ maxLen
      rw [ByteArray.size_extract]; unfold maxLen; omega
    have HW2 : Hid (rdWL (bytesL s) = if 128 ≤ a then (unpL (t.take n)).map (fun o => (o, 1 + (n : Int))) else if wOk (t.take n) then some (t.take n, 1 + (n : Int)) else none) := by
      show rdWL (bytesL s) = _
      have hnn : (a % 128).toNat = n := by rw [HN.out]; simp
      rw [HW.out, if_neg (by have := HT.out; have := HN.out; omega), hnn, HN.out]
    clear HW hx hl
    have hsl : ∀ W : World, (Instr.slice 9 (.string s) (some (.int .i64 1)) (some (.int .i64 (1 + (n : Int)))) none).run Tryz.prog W = .ok (.string (s.extract 1 (1 + n))) W := fun W => by
      have h := run_slice_string (P := Tryz.prog) W 9 s .i64 .i64 1 (1 + (n : Int)) Tryz.underlying9 (by decide) (by omega) (by omega)
      rw [show (1 + (n : Int)).toNat = 1 + n by omega] at h
      exact h
    by_cases h128 : 128 ≤ a
    · go_enter Tryz.func80, Tryz.ntmps80
      go_wp2_with fail
      refine (sr7 _ _ HM.out).mono ?_
      rw [HRD.out, HN.out]
      unfold tupV
      rintro e wa ⟨rfl, rfl⟩
      go_wp2_with fail
      refine (specUnpack _ _ HXM.out).mono ?_
      obtain ⟨⟨o, ok⟩, hu⟩ : ∃ r, unpV (s.extract 1 (1 + n)) = r := ⟨_, rfl⟩
      have HU : Hid (unpV (s.extract 1 (1 + n)) = (o, ok)) := hu
      rw [hu]
      clear hu
      rintro e wb ⟨rfl, hb⟩
      cases ok with
      | false =>
        have HV : Hid (rdWV s = (⟨#[]⟩, 0, false)) := by
          show rdWV s = _
          have h1 := HU.out
          unfold unpV at h1
          rw [HX.out] at h1
          unfold rdWV
          rw [HW2.out, if_pos h128]
          match hq : unpL (t.take n) with
          | none => rfl
          | some z => rw [hq] at h1; simp at h1
        go_wp2
        go_ret3
        exact ⟨ret_sib (by rw [HV.out]) (by rw [HV.out]) (by rw [HV.out]), hb⟩
      | true =>
        have HV : Hid (rdWV s = (o, 1 + (n : Int), true)) := by
          show rdWV s = _
          have h1 := HU.out
          unfold unpV at h1
          rw [HX.out] at h1
          unfold rdWV
          rw [HW2.out, if_pos h128]
          match hq : unpL (t.take n) with
          | none => rw [hq] at h1; simp at h1
          | some z => rw [hq] at h1; simp at h1; rw [← h1]; rfl
        go_wp2
        go_ret3
        exact ⟨ret_sib (by rw [HV.out]) (by rw [HV.out]) (by rw [HV.out]), hb⟩
    · have h128' : a < 128 := by omega
      go_enter Tryz.func80, Tryz.ntmps80
      go_wp2_with fail
      refine (sr7 _ _ HM.out).mono ?_
      rw [HRD.out, HN.out]
      unfold tupV
      rintro e wa ⟨rfl, rfl⟩
      go_wp2_with fail
      refine (specWordOk _ _ HXM.out).mono ?_
      rw [HX.out]
      obtain ⟨ok, hok⟩ : ∃ ok, wOk (t.take n) = ok := ⟨_, rfl⟩
      rw [hok]
      have HK : Hid (wOk (t.take n) = ok) := hok
      clear hok
      rintro e wb ⟨rfl, rfl⟩
      cases ok with
      | false =>
        have HV : Hid (rdWV s = (⟨#[]⟩, 0, false)) := by
          show rdWV s = _
          unfold rdWV
          rw [HW2.out, if_neg (by omega), HK.out]; rfl
        go_wp2
        go_ret3
        exact ⟨ret_sib (by rw [HV.out]) (by rw [HV.out]) (by rw [HV.out]), Below.refl _ _⟩
      | true =>
        have HV : Hid (rdWV s = (s.extract 1 (1 + n), 1 + (n : Int), true)) := by
          show rdWV s = _
          unfold rdWV
          rw [HW2.out, if_neg (by omega), HK.out]
          show (strOfNums (t.take n), 1 + (n : Int), true) = _
          rw [← HX.out, strOfNums_bytesL]
        go_wp2
        go_ret3
        exact ⟨ret_sib (by rw [HV.out]) (by rw [HV.out]) (by rw [HV.out]), Below.refl _ _⟩

theorem l2Read_any (s : ByteArray) (w : World) (hm : s.size ≤ maxLen) :
    Calls Tryz.prog 80 #[.string s] w fun e w' => e = .returned (.tuple #[.string (rdWV s).1, .int .i64 (rdWV s).2.1, .bool (rdWV s).2.2]) ∧ Below w.heap.size w w' := by
  match hl : bytesL s with
  | [] =>
    have HV : rdWV s = (⟨#[]⟩, 0, false) := by unfold rdWV; rw [hl]; rfl
    rw [HV]
    exact l2Read_no s 0 0 false w hm (by rw [hl]; rfl) (.inl rfl) (by omega)
  | a :: t =>
    have hbd := bytesL_bd s
    rw [hl] at hbd
    have ha := hbd a (by simp)
    by_cases h16 : 16 < a % 128
    · have HV : rdWV s = (⟨#[]⟩, 0, false) := by unfold rdWV; rw [hl, rdWL_cons, if_pos h16]
      rw [HV]
      obtain ⟨⟨n, u, ok⟩, hr⟩ : ∃ r, rd 128 (a :: t) = r := ⟨_, rfl⟩
      have hn : n ≤ 10000 := by
        match t, hbd, hr with
        | [], _, hr => rw [rd1] at hr; split at hr <;> (simp at hr; omega)
        | [b], hbd, hr =>
          have hb := hbd b (by simp)
          rw [rd2] at hr
          split at hr
          · simp at hr; omega
          · split at hr <;> (simp at hr; omega)
        | b :: c :: u, hbd, hr =>
          rw [rd3] at hr
          split at hr
          · simp at hr; omega
          · split at hr
            · simp at hr; omega
            · split at hr <;> (simp at hr; omega)
      refine l2Read_no s n u ok w hm (by rw [hl]; exact hr) ?_ hn
      by_cases h127 : a % 128 < 127
      · refine .inr ?_
        have : rd 128 (a :: t) = (a % 128, 1, true) := by
          match t with
          | [] => rw [rd1, if_pos (by omega)]
          | [b] => rw [rd2, if_pos (by omega)]
          | b :: c :: u => rw [rd3, if_pos (by omega)]
        rw [this] at hr
        simp at hr
        omega
      · have := rd_big a t (fun x hx => hbd x (by simp [hx])) h127
        rw [hr] at this
        exact this
    · exact l2Read_yes s a t w hm hl h16

end Go.Proofs.YtbhoafiolalgaaaGreat

namespace Go.Proofs.YtbhoafiolalgaaaGreat
open Go.RowKit
set_option linter.unusedVariables false
theorem bt {w a b : World} (h1 : Below w.heap.size w a) (h2 : Below a.heap.size a b) : Below w.heap.size w b := h1.trans (h2.mono h1.size)

theorem wOk_mk {l : List Int} (h : allS l) (hl : l.length ≤ 16) : wOk l = true := by
  unfold wOk
  rw [Bool.and_eq_true, List.all_eq_true]
  exact ⟨fun c hc => by simpa using h c hc, by simpa using hl⟩
theorem wOk_allS {l : List Int} (h : wOk l = true) : allS l ∧ l.length ≤ 16 := wOk_signs h
theorem packV_ok {s : ByteArray} (h : wOk (bytesL s) = true) : packV s = strOfNums (packL (bytesL s)) := by unfold packV; rw [if_pos h]
theorem packV_bad {s : ByteArray} (h : wOk (bytesL s) = false) : packV s = ⟨#[]⟩ := by unfold packV; rw [if_neg (by simp [h])]
theorem bytesL_packV {s : ByteArray} (h : wOk (bytesL s) = true) : bytesL (packV s) = packL (bytesL s) := by rw [packV_ok h, bytesL_strOfNums _ (packL_bd _)]
theorem bytesL_none : bytesL ⟨#[]⟩ = [] := rfl
theorem unpV_some {b : ByteArray} {o : List Int} (h : unpL (bytesL b) = some o) : unpV b = (strOfNums o, true) := by unfold unpV; rw [h]
theorem unpV_none {b : ByteArray} (h : unpL (bytesL b) = none) : unpV b = (⟨#[]⟩, false) := by unfold unpV; rw [h]
theorem unpV_pack {s : ByteArray} (h : wOk (bytesL s) = true) : unpV (packV s) = (s, true) := by
  have h2 := wOk_allS h
  rw [unpV_some (o := bytesL s) (by rw [bytesL_packV h]; exact unpL_pack _ h2.1 h2.2), strOfNums_bytesL]
theorem allS_bd {l : List Int} (h : allS l) : ∀ x ∈ l, 0 ≤ x ∧ x ≤ 255 := by
  intro x hx
  have h1 := h x hx
  have h2 := sgn_back h1
  have h3 := sgn_lt x
  have h4 : (sgn x).toNat < WS.length := by rw [WS_length]; omega
  rw [← h2]
  refine WS_bd _ ?_
  simp [List.getD, h4]
theorem unpV_strict {b x : ByteArray} (h : unpV b = (x, true)) : wOk (bytesL x) = true ∧ packV x = b := by
  unfold unpV at h
  match hu : unpL (bytesL b) with
  | none => rw [hu] at h; simp at h
  | some o =>
    rw [hu] at h
    simp at h
    obtain ⟨h1, h2, h3⟩ := unpL_strict (bytesL b) o (bytesL_bd b) hu
    have ho : bytesL x = o := by rw [← h, bytesL_strOfNums _ (allS_bd h1)]
    have hok : wOk (bytesL x) = true := by rw [ho]; exact wOk_mk h1 h2
    refine ⟨hok, ?_⟩
    rw [packV_ok hok, ho, h3, strOfNums_bytesL]
theorem unpV_two (b : ByteArray) : unpV b = (⟨#[]⟩, false) ∨ ∃ x, unpV b = (x, true) := by
  unfold unpV
  match unpL (bytesL b) with
  | none => exact .inl rfl
  | some o => exact .inr ⟨_, rfl⟩

/-! Words in bytes, with how long they are. -/
theorem wrV_ok {s : ByteArray} (h : wOk (bytesL s) = true) : wrV s = strOfNums (wrL (bytesL s)) := by unfold wrV; rw [if_pos h]
theorem wrV_bad {s : ByteArray} (h : wOk (bytesL s) = false) : wrV s = ⟨#[]⟩ := by unfold wrV; rw [if_neg (by simp [h])]
theorem wrL_bd {l : List Int} (h : ∀ x ∈ l, 0 ≤ x ∧ x ≤ 255) (hl : l.length ≤ 16) : ∀ x ∈ wrL l, 0 ≤ x ∧ x ≤ 255 := by
  have hp := packL_length l hl
  intro x hx
  unfold wrL at hx
  split at hx
  · rcases List.mem_cons.1 hx with rfl | hx
    · omega
    · exact packL_bd l x hx
  · rcases List.mem_cons.1 hx with rfl | hx
    · omega
    · exact h x hx
theorem bytesL_wrV {s : ByteArray} (h : wOk (bytesL s) = true) : bytesL (wrV s) = wrL (bytesL s) := by
  rw [wrV_ok h, bytesL_strOfNums _ (wrL_bd (bytesL_bd s) (wOk_allS h).2)]
theorem wrL_len (l : List Int) : (wrL l).length = 1 + min (packL l).length l.length := by
  unfold wrL
  split
  · rw [List.length_cons]; omega
  · rw [List.length_cons]; omega
/-- Packed or not a word is read, whatever follows. -/
theorem rdWL_plain (l t : List Int) (h : allS l) (hl : l.length ≤ 16) : rdWL ((l.length : Int) :: (l ++ t)) = some (l, 1 + (l.length : Int)) := by
  have e : ((l.length : Int) % 128).toNat = l.length := by omega
  have e2 : (l.length : Int) % 128 = l.length := by omega
  rw [rdWL_cons, if_neg (by omega), if_neg (by rw [List.length_append]; omega), if_neg (by omega), e, List.take_left, if_pos (wOk_mk h hl), e2]
theorem rdWL_pack (l t : List Int) (h : allS l) (hl : l.length ≤ 16) : rdWL ((128 + (packL l).length : Int) :: (packL l ++ t)) = some (l, 1 + ((packL l).length : Int)) := by
  have hp := packL_length l hl
  have e : ((128 + (packL l).length : Int) % 128).toNat = (packL l).length := by omega
  have e2 : (128 + (packL l).length : Int) % 128 = (packL l).length := by omega
  rw [rdWL_cons, if_neg (by omega), if_neg (by rw [List.length_append]; omega), if_pos (by omega), e, List.take_left, unpL_pack l h hl, e2]
  rfl
theorem rdWL_write (l t : List Int) (h : allS l) (hl : l.length ≤ 16) : rdWL (wrL l ++ t) = some (l, ((wrL l).length : Int)) := by
  unfold wrL
  split
  · rw [List.cons_append, rdWL_pack l t h hl, List.length_cons]
    congr 2
    omega
  · rw [List.cons_append, rdWL_plain l t h hl, List.length_cons]
    congr 2
    omega
theorem rdWV_some {b : ByteArray} {o : List Int} {u : Int} (h : rdWL (bytesL b) = some (o, u)) : rdWV b = (strOfNums o, u, true) := by unfold rdWV; rw [h]
theorem rdWV_none {b : ByteArray} (h : rdWL (bytesL b) = none) : rdWV b = (⟨#[]⟩, 0, false) := by unfold rdWV; rw [h]
theorem rdWV_write {s : ByteArray} (h : wOk (bytesL s) = true) (t : ByteArray) : rdWV (wrV s ++ t) = (s, ((wrV s).size : Int), true) := by
  have h2 := wOk_allS h
  rw [rdWV_some (o := bytesL s) (u := ((wrL (bytesL s)).length : Int)) (by rw [bytesL_append, bytesL_wrV h]; exact rdWL_write _ _ h2.1 h2.2), strOfNums_bytesL, wrV_ok h, strOfNums_size]
theorem append_none (s : ByteArray) : s ++ (⟨#[]⟩ : ByteArray) = s := by apply ByteArray.ext; simp
theorem rdWV_back {s : ByteArray} (h : wOk (bytesL s) = true) : rdWV (wrV s) = (s, ((wrV s).size : Int), true) := by
  have := rdWV_write h ⟨#[]⟩
  rwa [append_none] at this
theorem rdWV_two (b : ByteArray) : rdWV b = (⟨#[]⟩, 0, false) ∨ ∃ x u, rdWV b = (x, u, true) := by
  unfold rdWV
  match rdWL (bytesL b) with
  | none => exact .inl rfl
  | some (o, u) => exact .inr ⟨_, _, rfl⟩
/-- What is read is a word. -/
theorem rdWL_strict {b l : List Int} {u : Int} (hb : ∀ x ∈ b, 0 ≤ x ∧ x ≤ 255) (h : rdWL b = some (l, u)) : allS l ∧ l.length ≤ 16 ∧ 1 ≤ u ∧ u ≤ b.length ∧ ((wrL l).length : Int) ≤ u := by
  match b, hb with
  | [], _ => simp [rdWL] at h
  | a :: t, hb =>
    have ha := hb a (by simp)
    rw [rdWL_cons] at h
    by_cases h16 : 16 < a % 128
    · rw [if_pos h16] at h; simp at h
    · rw [if_neg h16] at h
      by_cases ht : (t.length : Int) < a % 128
      · rw [if_pos ht] at h; simp at h
      · rw [if_neg ht] at h
        have hlen : (t.take (a % 128).toNat).length = (a % 128).toNat := by rw [List.length_take]; omega
        by_cases h128 : 128 ≤ a
        · rw [if_pos h128] at h
          match hu : unpL (t.take (a % 128).toNat) with
          | none => rw [hu] at h; simp at h
          | some o =>
            rw [hu] at h
            simp at h
            obtain ⟨rfl, rfl⟩ := h
            obtain ⟨h1, h2, h3⟩ := unpL_strict _ o (fun x hx => hb x (by simp [List.mem_of_mem_take hx])) hu
            refine ⟨h1, h2, by omega, by rw [List.length_cons]; omega, ?_⟩
            rw [wrL_len, h3, hlen]
            omega
        · rw [if_neg h128] at h
          by_cases hw : wOk (t.take (a % 128).toNat) = true
          · rw [if_pos hw] at h
            simp at h
            obtain ⟨rfl, rfl⟩ := h
            have h2 := wOk_allS hw
            refine ⟨h2.1, h2.2, by omega, by rw [List.length_cons]; omega, ?_⟩
            rw [wrL_len, hlen]
            omega
          · rw [if_neg hw] at h; simp at h
theorem rdWV_strict {b x : ByteArray} {u : Int} (h : rdWV b = (x, u, true)) : wOk (bytesL x) = true ∧ 1 ≤ u ∧ u ≤ (b.size : Int) ∧ ((wrV x).size : Int) ≤ u := by
  unfold rdWV at h
  match hu : rdWL (bytesL b) with
  | none => rw [hu] at h; simp at h
  | some (o, v) =>
    rw [hu] at h
    simp at h
    obtain ⟨h0, rfl⟩ := h
    obtain ⟨h1, h2, h3, h4, h5⟩ := rdWL_strict (bytesL_bd b) hu
    have ho : bytesL x = o := by rw [← h0, bytesL_strOfNums _ (allS_bd h1)]
    have hok : wOk (bytesL x) = true := by rw [ho]; exact wOk_mk h1 h2
    rw [bytesL_length] at h4
    refine ⟨hok, h3, h4, ?_⟩
    rw [wrV_ok hok, strOfNums_size, ho]
    exact h5
/-- A word of which bytes lack is none. -/
theorem rdWL_lack (l : List Int) (h : allS l) (hl : l.length ≤ 16) (k : Nat) (hk : k < (wrL l).length) : rdWL ((wrL l).take k) = none := by
  match k with
  | 0 => rfl
  | k + 1 =>
    have hp := packL_length l hl
    unfold wrL at hk ⊢
    split at hk
    · rename_i hc
      rw [if_pos hc, List.take_succ_cons, rdWL_cons, if_neg (by omega), if_pos]
      rw [List.length_cons] at hk
      rw [List.length_take]
      omega
    · rename_i hc
      rw [if_neg hc, List.take_succ_cons, rdWL_cons, if_neg (by omega), if_pos]
      rw [List.length_cons] at hk
      rw [List.length_take]
      omega
theorem rdWV_lack {s : ByteArray} (h : wOk (bytesL s) = true) (k : Nat) (hk : k < (wrV s).size) : rdWV ((wrV s).extract 0 k) = (⟨#[]⟩, 0, false) := by
  have h2 := wOk_allS h
  apply rdWV_none
  rw [bytesL_extract, List.drop_zero, bytesL_wrV h]
  refine rdWL_lack _ h2.1 h2.2 k ?_
  rw [← bytesL_wrV h, bytesL_length]
  exact hk
theorem wrV_pos {s : ByteArray} (h : wOk (bytesL s) = true) : 0 < (wrV s).size := by
  rw [wrV_ok h, strOfNums_size, wrL_len]; omega
end Go.Proofs.YtbhoafiolalgaaaGreat
