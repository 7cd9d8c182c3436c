import Derived.Test.YtadidkkpokpocawWPack
namespace Go.Proofs.Ytadidkkpokpocaw
open Go.RowKit
set_option linter.unusedVariables false

theorem ret_sb {a b : ByteArray} {c d : Bool} (h : a = b) (h' : c = d) : Ending.returned (.tuple #[.string a, .bool c]) = .returned (.tuple #[.string b, .bool d]) := by rw [h, h']
theorem val_int {a b : Int} (h : a = b) : Value.int .i64 a = .int .i64 b := by rw [h]

theorem own_cells {w : World} {base : Nat} {e : TypeId} {g T c : Nat} {bs : List Int} (hown : w.ownsRow base e 1 (.slice (some ⟨g, 0, none⟩) T c) T (bs.map (Value.int .i64))) (hbl : bs.length = T) (o m : Nat) (h : o + m ≤ T) :
    ((bs.drop o).take m).length = m ∧ ∀ i, i < ((bs.drop o).take m).length → w.cell? ⟨g, o + i, none⟩ = some (.int .i64 (((bs.drop o).take m).getD i 0)) := by
  have hln : ((bs.drop o).take m).length = m := by rw [List.length_take, List.length_drop, hbl]; omega
  refine ⟨hln, ?_⟩
  intro i hi
  rw [hln] at hi
  have hi2 : o + i < bs.length := by rw [hbl]; omega
  have := hown.cells (g := g) rfl (o + i) (.int .i64 bs[o + i]) (by simp [hi2])
  rw [Addr.add_lit, show (0 : Nat) + (o + i) = o + i by omega] at this
  rw [this]
  have e : ((bs.drop o).take m).getD i 0 = bs[o + i] := by
    simp [List.getD, hi, List.getElem?_drop, hi2]
  rw [e]
theorem numB_seven (l : List Int) (h : 7 ≤ l.length) (hb : ∀ b ∈ l, b = 0 ∨ b = 1) : 4 * numB (l.take 5) ≤ numB (l.take 7) ∧ numB (l.take 7) ≤ 127 := by
  match l, h with
  | a :: b :: c :: d :: e :: f :: g :: t, _ =>
    have ha := hb a (by simp)
    have hb' := hb b (by simp)
    have hc := hb c (by simp)
    have hd := hb d (by simp)
    have he := hb e (by simp)
    have hf := hb f (by simp)
    have hg := hb g (by simp)
    simp [numB]
    omega

theorem unp_step {bs outL : List Int} {o n : Nat} {k x : Int} (hun : unp bs = (outL ++ (unp (bs.drop o)).1, (unp (bs.drop o)).2)) (hst : stepU (bs.drop o) = some (k, n)) (hx : WS.getD k.toNat 0 = x) :
    unp bs = ((outL ++ [x]) ++ (unp (bs.drop (o + n))).1, (unp (bs.drop (o + n))).2) := by
  have h := unp_some hst
  rw [List.drop_drop, hx] at h
  have h1 : (unp (bs.drop o)).1 = x :: (unp (bs.drop (o + n))).1 := by rw [h]
  have h2 : (unp (bs.drop o)).2 = (unp (bs.drop (o + n))).2 := by rw [h]
  rw [hun, h1, h2, List.append_assoc]
  rfl
theorem unp_end {bs outL : List Int} {o : Nat} (hun : unp bs = (outL ++ (unp (bs.drop o)).1, (unp (bs.drop o)).2)) (hst : stepU (bs.drop o) = none) : unp bs = (outL, bs.drop o) := by
  rw [hun, unp_none hst]
  simp
theorem all_snoc {l : List Int} {k : Nat} {y : Int} (hk : k < l.length) (hy : l[k] = y) : (l.take (k + 1)).all (fun b => b == 1) = ((l.take k).all (fun b => b == 1) && (y == 1)) := by
  rw [List.take_succ_eq_append_getElem hk, List.all_append, hy]
  simp
theorem val_bool {a b : Bool} (h : a = b) : Value.bool a = .bool b := by rw [h]

set_option maxRecDepth 100000 in
set_option maxHeartbeats 400000 in
theorem l2Unpack_none (w : World) :
    Calls Try.prog 39 #[.string ⟨#[]⟩] w fun e w' => e = .returned (.tuple #[.string ⟨#[]⟩, .bool true]) ∧ Below w.heap.size w w' := by
  go_enter Try.func39, Try.ntmps39
  go_wp2
  go_rounds 1
  go_rounds 1
  go_rounds 1
  go_ret2
  exact ⟨rfl, by go_grown⟩

set_option maxRecDepth 100000 in
set_option maxHeartbeats 2000000 in
theorem l2Unpack_some (s : ByteArray) (w : World) (h0 : 0 < s.size) (hz : s.size ≤ 16) :
    Calls Try.prog 39 #[.string s] w fun e w' => e = .returned (.tuple #[.string (strOfNums (unp (bytesB (bytesL s))).1), .bool (unpOk (unp (bytesB (bytesL s))))]) ∧ Below w.heap.size w w' := by
  obtain ⟨ii, hi, hz0, hz1, hz2⟩ := info_parts infoI
  go_enter Try.func39, Try.ntmps39
  go_wp2
  go_loopw [4, 5] (fun v i wr => ∃ k : Nat, k ≤ s.size ∧ i = .int .i64 k ∧ wr.ownsRow w.heap.size 3 1 v (8 * k) ((bytesB ((bytesL s).take k)).map (Value.int .i64)) ∧ Below w.heap.size w wr) (fun _ i _ => s.size - (intOf i).toNat)
  case atStart => exact ⟨0, by omega, rfl, own_zero _ _, Below.alloc (Below.refl _ _) (Nat.le_refl _) _⟩
  case round =>
    obtain ⟨k, hk, rfl, hown, hbel⟩ := hrel
    by_cases hlt : k < s.size
    · have hlt' : (k : Int) < s.size := by omega
      have hkl : k < (bytesL s).length := by rw [bytesL_length]; exact hlt
      obtain ⟨x, hx⟩ : ∃ x, (bytesL s)[k] = x := ⟨_, rfl⟩
      have hq : ((s[k]'hlt).toNat : Int) = x := by rw [bytesL_at, ← hx]
      obtain ⟨x0, x1⟩ := bytesL_bd s x (by rw [← hx]; exact List.getElem_mem hkl)
      have HS : Hid (bytesB ((bytesL s).take (k + 1)) = bytesB ((bytesL s).take k) ++ bitsL 8 x) := by
        show bytesB ((bytesL s).take (k + 1)) = bytesB ((bytesL s).take k) ++ bitsL 8 x
        rw [List.take_succ_eq_append_getElem hkl, bytesB_snoc, hx]
      clear hx hkl
      have hsz := hbel.size
      go_wp2_with fail
      refine (l2Bits8 _ _ x0 x1).mono ?_
      rintro e wz ⟨rfl, rfl⟩
      go_wp2_with (at_builtin; refine wpList_append_own _ rfl _ _ 97 rfl w.heap.size 3 ii (.int .i64 0) 1 8 Try.underlying97 hi hz0 hz1 hz2 rfl (by decide) _ _ _ rfl (hown.alloc _) ⟨wr.heap.size, 0, none⟩ 8 8 ((bitsL 8 x).map (Value.int .i64)) rfl ?c0 ?c1 ?c2 ?c3 ?c4 ?c5 ?_)
      case c0 => rw [List.length_map, bitsL_length]
      case c1 => exact cell_list _ _ _
      case c2 => exact ints_oneCell _ _
      case c3 => unfold maxLen; omega
      case c4 => omega
      case c5 => go_size
      intro v' w1 hown' hgrow _
      go_wp2
      go_roundw
      case rel =>
        refine ⟨k + 1, by omega, by go_num, ?_, ?_⟩
        · rw [HS.out, List.map_append, show 8 * (k + 1) = 8 * k + 8 by omega]; exact hown'
        · exact Below.grown (Below.alloc hbel hsz _) hgrow (by go_size) (fun q hq => (hown.lt q hq).1)
      case measure => simp [intOf]; omega
    · have hall : (bytesL s).take k = bytesL s := List.take_of_length_le (by rw [bytesL_length]; omega)
      rw [hall] at hown
      have hbit := bytesB_bit (bytesL s)
      have hbl := bytesB_length (bytesL s)
      rw [bytesL_length] at hbl
      obtain ⟨bs, hbs⟩ : ∃ bs, bytesB (bytesL s) = bs := ⟨_, rfl⟩
      have HU : Hid (unp (bytesB (bytesL s)) = unp bs) := by show unp (bytesB (bytesL s)) = unp bs; rw [hbs]
      rw [hbs] at hown hbit hbl
      obtain ⟨T, hT⟩ : ∃ T, 8 * k = T := ⟨_, rfl⟩
      rw [hT] at hown
      have hbl' : bs.length = T := by rw [hbl]; omega
      have hT8 : 8 ≤ T := by omega
      have hT128 : T ≤ 128 := by omega
      have HBL : Hid (bs.length = T) := hbl'
      have HBIT : Hid (∀ b ∈ bs, b = 0 ∨ b = 1) := hbit
      obtain ⟨a, c, hv⟩ := own_form hown
      clear hall hbs hT hbl hbl' hbit
      go_wp2
      rw [hv]
      rw [hv] at hown
      clear hv
      obtain ⟨g, rfl, hc1, hc2⟩ := own_addr hown (by omega)
      unfold maxLen at hc2
      have hc3 : (T : Int) ≤ c := by omega
      go_loopw [6, 4] (fun out v wr => ∃ (o : Nat) (outL : List Int) (a : Option Addr), o ≤ T ∧ v = .slice a (T - o) (c - o) ∧ (o < T → a = some ⟨g, o, none⟩) ∧ out = .string (strOfNums outL) ∧ outL.length * 5 ≤ o ∧ unp bs = (outL ++ (unp (bs.drop o)).1, (unp (bs.drop o)).2) ∧ wr.ownsRow w.heap.size 3 1 (.slice (some ⟨g, 0, none⟩) T c) T (bs.map (Value.int .i64)) ∧ Below w.heap.size w wr) (fun _ v _ => lenV v)
      case atStart => exact ⟨0, [], some ⟨g, 0, none⟩, by omega, rfl, fun _ => rfl, rfl, by simp, rfl, hown, hbel⟩
      case round =>
        clear hown hbel
        obtain ⟨o, outL, a, ho, rfl, ha, rfl, hol, hun, hown, hbel⟩ := hrel
        have HUN : Hid (unp bs = (outL ++ (unp (bs.drop o)).1, (unp (bs.drop o)).2)) := hun
        clear hun
        have hsz := hbel.size
        by_cases h5 : 5 ≤ T - o
        · obtain rfl := ha (by omega)
          clear ha
          have hT5 : (5 : Int) ≤ ((T - o : Nat) : Int) := by omega
          have hC5 : (5 : Int) ≤ ((c - o : Nat) : Int) := by omega
          have hCT : ((T - o : Nat) : Int) ≤ ((c - o : Nat) : Int) := by omega
          have hc5 := own_cells hown HBL.out o 5 (by omega)
          have HC5 : Hid (((bs.drop o).take 5).length = 5 ∧ ∀ i, i < ((bs.drop o).take 5).length → wr.cell? ⟨g, o + i, none⟩ = some (.int .i64 (((bs.drop o).take 5).getD i 0))) := hc5
          have hbd := numB_bd ((bs.drop o).take 5) (fun b hb => HBIT.out b (List.mem_of_mem_drop (List.mem_of_mem_take hb)))
          rw [hc5.1] at hbd
          obtain ⟨kn, hkn⟩ : ∃ kn : Nat, numB ((bs.drop o).take 5) = (kn : Int) := ⟨(numB ((bs.drop o).take 5)).toNat, by omega⟩
          have hkn1 : (kn : Int) < 32 := by omega
          have HKN : Hid (numB ((bs.drop o).take 5) = (kn : Int)) := hkn
          clear hc5 hbd hkn
          go_wp2_with fail
          refine (l2Num_any _ _ _ _ ((bs.drop o).take 5) _ HC5.out.1 (by decide) (fun b hb => HBIT.out b (List.mem_of_mem_drop (List.mem_of_mem_take hb))) HC5.out.2).mono ?_
          rw [HKN.out]
          rintro e wq ⟨rfl, rfl⟩
          by_cases h24 : kn < 24
          · have h24' : (kn : Int) < 24 := by omega
            have HST : Hid (stepU (bs.drop o) = some ((kn : Int), 5)) := by
              show stepU (bs.drop o) = some ((kn : Int), 5)
              unfold stepU
              rw [if_neg (by rw [List.length_drop, HBL.out]; omega), if_pos (by rw [HKN.out]; omega), HKN.out]
            have hq := WS_at kn (by show kn < 39; omega)
            obtain ⟨x, hx⟩ : ∃ x, WS.getD kn 0 = x := ⟨_, rfl⟩
            rw [hx] at hq
            have hxb := WS_bd x (by rw [← hx]; have : kn < WS.length := by rw [WS_length]; omega
                                    simp [List.getD, this])
            obtain ⟨x0, x1⟩ := hxb
            have HX : Hid (WS.getD kn 0 = x) := hx
            clear hx
            have hso : (strOfNums outL).size ≤ 100 := by rw [strOfNums_size]; omega
            have hs1 : ∀ x, (strOfNums [x]).size = 1 := fun _ => rfl
            go_wp2_with fail
            refine (l1Byte_any _ _ x0 x1).mono ?_
            rintro e w2 ⟨rfl, hb2⟩
            go_wp2
            go_roundw
            case rel =>
              have hv : Value.string (strOfNums outL ++ strOfNums [x]) = .string (strOfNums (outL ++ [x])) := val_str (strOfNums_append _ _)
              have hsl : ∀ z : Option Addr, Value.slice z (T - o - 5) (c - o - 5) = .slice z (T - (o + 5)) (c - (o + 5)) := fun z => by rw [Nat.sub_sub, Nat.sub_sub]
              refine ⟨o + 5, outL ++ [x], _, by omega, hsl _, fun h => if_neg (by omega), hv, by rw [List.length_append, List.length_singleton]; omega, unp_step HUN.out HST.out HX.out, own_below hown hb2, hbel.trans (hb2.mono hsz)⟩
            case measure => simp [lenV]; omega
          · have h24' : (24 : Int) ≤ kn := by omega
            by_cases h7 : 7 ≤ T - o
            · have hT7 : (7 : Int) ≤ ((T - o : Nat) : Int) := by omega
              have hC7 : (7 : Int) ≤ ((c - o : Nat) : Int) := by omega
              have hc7 := own_cells hown HBL.out o 7 (by omega)
              have HC7 : Hid (((bs.drop o).take 7).length = 7 ∧ ∀ i, i < ((bs.drop o).take 7).length → wq.cell? ⟨g, o + i, none⟩ = some (.int .i64 (((bs.drop o).take 7).getD i 0))) := hc7
              have hsev := numB_seven (bs.drop o) (by rw [List.length_drop, HBL.out]; omega) (fun b hb => HBIT.out b (List.mem_of_mem_drop hb))
              rw [HKN.out] at hsev
              obtain ⟨k7, hk7⟩ : ∃ k7 : Nat, numB ((bs.drop o).take 7) - 96 + 24 = (k7 : Int) := ⟨(numB ((bs.drop o).take 7) - 96 + 24).toNat, by omega⟩
              obtain ⟨q7, hq7⟩ : ∃ q7 : Int, numB ((bs.drop o).take 7) = q7 := ⟨_, rfl⟩
              have HQ7 : Hid (numB ((bs.drop o).take 7) = q7) := hq7
              have HK7 : Hid (numB ((bs.drop o).take 7) - 96 + 24 = (k7 : Int)) := hk7
              rw [hq7] at hk7 hsev
              have hq0 : 96 ≤ q7 := by omega
              have hq1 : q7 ≤ 127 := by omega
              clear hc7 hsev hq7
              go_wp2_with fail
              refine (l2Num_any _ _ _ _ ((bs.drop o).take 7) _ HC7.out.1 (by decide) (fun b hb => HBIT.out b (List.mem_of_mem_drop (List.mem_of_mem_take hb))) HC7.out.2).mono ?_
              rw [HQ7.out]
              rintro e wv ⟨rfl, rfl⟩
              by_cases h39 : k7 < 39
              · have h39' : (k7 : Int) < 39 := by omega
                have HST : Hid (stepU (bs.drop o) = some ((k7 : Int), 7)) := by
                  show stepU (bs.drop o) = some ((k7 : Int), 7)
                  unfold stepU
                  rw [if_neg (by rw [List.length_drop, HBL.out]; omega), if_neg (by rw [HKN.out]; omega), if_neg (by rw [List.length_drop, HBL.out]; omega), if_neg (by rw [HK7.out]; omega), HK7.out]
                have hq := WS_at k7 (by show k7 < 39; omega)
                obtain ⟨x, hx⟩ : ∃ x, WS.getD k7 0 = x := ⟨_, rfl⟩
                rw [hx] at hq
                have hxb := WS_bd x (by rw [← hx]; have : k7 < WS.length := by rw [WS_length]; omega
                                        simp [List.getD, this])
                obtain ⟨x0, x1⟩ := hxb
                have HX : Hid (WS.getD k7 0 = x) := hx
                clear hx
                have hso : (strOfNums outL).size ≤ 100 := by rw [strOfNums_size]; omega
                have hs1 : ∀ x, (strOfNums [x]).size = 1 := fun _ => rfl
                go_wp2_with fail
                refine (l1Byte_any _ _ x0 x1).mono ?_
                rintro e w2 ⟨rfl, hb2⟩
                go_wp2
                go_roundw
                case rel =>
                  have hv : Value.string (strOfNums outL ++ strOfNums [x]) = .string (strOfNums (outL ++ [x])) := val_str (strOfNums_append _ _)
                  have hsl : ∀ z : Option Addr, Value.slice z (T - o - 7) (c - o - 7) = .slice z (T - (o + 7)) (c - (o + 7)) := fun z => by rw [Nat.sub_sub, Nat.sub_sub]
                  refine ⟨o + 7, outL ++ [x], _, by omega, hsl _, fun h => if_neg (by omega), hv, by rw [List.length_append, List.length_singleton]; omega, unp_step HUN.out HST.out HX.out, own_below hown hb2, hbel.trans (hb2.mono hsz)⟩
                case measure => simp [lenV]; omega
              · have h39' : (39 : Int) ≤ k7 := by omega
                have ha : o < T → (some ⟨g, o, none⟩ : Option Addr) = some ⟨g, o, none⟩ := fun _ => rfl
                have HST : Hid (stepU (bs.drop o) = none) := by
                  show stepU (bs.drop o) = none
                  unfold stepU
                  rw [if_neg (by rw [List.length_drop, HBL.out]; omega), if_neg (by rw [HKN.out]; omega), if_neg (by rw [List.length_drop, HBL.out]; omega), if_pos (by rw [HK7.out]; omega)]
                have hend := unp_end HUN.out HST.out
                have HE : Hid (unp bs = (outL, bs.drop o)) := hend
                clear hend
                obtain ⟨R, hR⟩ : ∃ R, T - o = R := ⟨_, rfl⟩
                have hRl : (bs.drop o).length = R := by rw [List.length_drop, HBL.out]; exact hR
                obtain ⟨rest, hrest⟩ : ∃ rest, bs.drop o = rest := ⟨_, rfl⟩
                have hcells : 0 < R → (some ⟨g, o, none⟩ : Option Addr) = some ⟨g, o, none⟩ ∧ ∀ i (hi : i < rest.length), wv.cell? ⟨g, o + i, none⟩ = some (.int .i64 rest[i]) := by
                  intro h
                  refine ⟨ha (by omega), ?_⟩
                  intro i hi
                  subst hrest
                  have hi2 : o + i < bs.length := by rw [List.length_drop] at hi; omega
                  have := hown.cells (g := g) rfl (o + i) (.int .i64 bs[o + i]) (by simp [hi2])
                  rw [Addr.add_lit, show (0 : Nat) + (o + i) = o + i by omega] at this
                  rw [this]
                  simp
                have HCE : Hid (0 < R → (some ⟨g, o, none⟩ : Option Addr) = some ⟨g, o, none⟩ ∧ ∀ i (hi : i < rest.length), wv.cell? ⟨g, o + i, none⟩ = some (.int .i64 rest[i])) := hcells
                rw [hrest] at hRl
                have HRL : Hid (rest.length = R) := hRl
                have HFIN : Hid (unp (bytesB (bytesL s)) = (outL, rest)) := by show unp (bytesB (bytesL s)) = (outL, rest); rw [HU.out, HE.out, hrest]
                have hRc : (R : Int) ≤ ((c - o : Nat) : Int) := by omega
                have hRm : R ≤ 128 := by omega
                have hso : (strOfNums outL).size ≤ 100 := by rw [strOfNums_size]; omega
                clear hcells hRl hrest ha HE HST HUN
                go_wp2
                try rw [hR]
                clear hR
                go_loop [9, 10] (fun ones i => ∃ k : Nat, k ≤ R ∧ i = .int .i64 k ∧ ones = .bool ((rest.take k).all fun b => b == 1)) (fun _ i => R - (intOf i).toNat)
                case atStart => exact ⟨0, by omega, rfl, rfl⟩
                case round =>
                  obtain ⟨m, hm, rfl, rfl⟩ := hrel
                  obtain ⟨A, hA⟩ : ∃ A, ((rest.take m).all fun b => b == 1) = A := ⟨_, rfl⟩
                  rw [hA]
                  have HA : Hid (((rest.take m).all fun b => b == 1) = A) := hA
                  clear hA
                  by_cases hlt : m < R
                  · have hlt' : (m : Int) < R := by omega
                    have hml : m < rest.length := by rw [HRL.out]; exact hlt
                    obtain ⟨y, hy⟩ : ∃ y, rest[m] = y := ⟨_, rfl⟩
                    have hc := (HCE.out (by omega)).2 m hml
                    rw [hy] at hc
                    have haa := (HCE.out (by omega)).1
                    have HN : Hid (((rest.take (m + 1)).all fun b => b == 1) = (A && (y == 1))) := by
                      show ((rest.take (m + 1)).all fun b => b == 1) = (A && (y == 1))
                      rw [all_snoc hml hy, HA.out]
                    clear hy hml
                    cases A with
                    | false =>
                      go_wp2
                      go_round
                      case rel => exact ⟨m + 1, by omega, by go_num, val_bool (by rw [HN.out]; rfl)⟩
                      case measure => simp [intOf]; omega
                    | true =>
                      go_wp2
                      go_round
                      case rel => exact ⟨m + 1, by omega, by go_num, val_bool (by rw [HN.out]; rfl)⟩
                      case measure => simp [intOf]; omega
                  · have hmR : m = R := by omega
                    have HAL : Hid ((rest.all fun b => b == 1) = A) := by
                      show (rest.all fun b => b == 1) = A
                      rw [← HA.out, List.take_of_length_le (by rw [HRL.out]; omega)]
                    clear hmR
                    cases A with
                    | false =>
                      go_wp2
                      go_ret2
                      refine ⟨ret_sb (by rw [HFIN.out]) ?_, hbel⟩
                      rw [HFIN.out]; unfold unpOk; rw [HAL.out]; rfl
                    | true =>
                      by_cases h8 : R < 8
                      · have h8' : (R : Int) < 8 := by omega
                        go_wp2
                        go_ret2
                        refine ⟨ret_sb (by rw [HFIN.out]) ?_, hbel⟩
                        rw [HFIN.out]; unfold unpOk; rw [HAL.out, HRL.out, strOfNums_size]; simp [h8]; omega
                      · have h8' : (8 : Int) ≤ R := by omega
                        first
                          | (exfalso; omega)
                          | (go_wp2
                             go_ret2
                             refine ⟨ret_sb (by rw [HFIN.out]) ?_, hbel⟩
                             rw [HFIN.out]; unfold unpOk; rw [HAL.out, HRL.out]; simp [h8])
            · have hT7 : ((T - o : Nat) : Int) < 7 := by omega
              have ha : o < T → (some ⟨g, o, none⟩ : Option Addr) = some ⟨g, o, none⟩ := fun _ => rfl
              have HST : Hid (stepU (bs.drop o) = none) := by
                show stepU (bs.drop o) = none
                unfold stepU
                rw [if_neg (by rw [List.length_drop, HBL.out]; omega), if_neg (by rw [HKN.out]; omega), if_pos (by rw [List.length_drop, HBL.out]; omega)]
              have hend := unp_end HUN.out HST.out
              have HE : Hid (unp bs = (outL, bs.drop o)) := hend
              clear hend
              obtain ⟨R, hR⟩ : ∃ R, T - o = R := ⟨_, rfl⟩
              have hRl : (bs.drop o).length = R := by rw [List.length_drop, HBL.out]; exact hR
              obtain ⟨rest, hrest⟩ : ∃ rest, bs.drop o = rest := ⟨_, rfl⟩
              have hcells : 0 < R → (some ⟨g, o, none⟩ : Option Addr) = some ⟨g, o, none⟩ ∧ ∀ i (hi : i < rest.length), wq.cell? ⟨g, o + i, none⟩ = some (.int .i64 rest[i]) := by
                intro h
                refine ⟨ha (by omega), ?_⟩
                intro i hi
                subst hrest
                have hi2 : o + i < bs.length := by rw [List.length_drop] at hi; omega
                have := hown.cells (g := g) rfl (o + i) (.int .i64 bs[o + i]) (by simp [hi2])
                rw [Addr.add_lit, show (0 : Nat) + (o + i) = o + i by omega] at this
                rw [this]
                simp
              have HCE : Hid (0 < R → (some ⟨g, o, none⟩ : Option Addr) = some ⟨g, o, none⟩ ∧ ∀ i (hi : i < rest.length), wq.cell? ⟨g, o + i, none⟩ = some (.int .i64 rest[i])) := hcells
              rw [hrest] at hRl
              have HRL : Hid (rest.length = R) := hRl
              have HFIN : Hid (unp (bytesB (bytesL s)) = (outL, rest)) := by show unp (bytesB (bytesL s)) = (outL, rest); rw [HU.out, HE.out, hrest]
              have hRc : (R : Int) ≤ ((c - o : Nat) : Int) := by omega
              have hRm : R ≤ 128 := by omega
              have hso : (strOfNums outL).size ≤ 100 := by rw [strOfNums_size]; omega
              clear hcells hRl hrest ha HE HST HUN
              go_wp2
              try rw [hR]
              clear hR
              go_loop [9, 10] (fun ones i => ∃ k : Nat, k ≤ R ∧ i = .int .i64 k ∧ ones = .bool ((rest.take k).all fun b => b == 1)) (fun _ i => R - (intOf i).toNat)
              case atStart => exact ⟨0, by omega, rfl, rfl⟩
              case round =>
                obtain ⟨m, hm, rfl, rfl⟩ := hrel
                obtain ⟨A, hA⟩ : ∃ A, ((rest.take m).all fun b => b == 1) = A := ⟨_, rfl⟩
                rw [hA]
                have HA : Hid (((rest.take m).all fun b => b == 1) = A) := hA
                clear hA
                by_cases hlt : m < R
                · have hlt' : (m : Int) < R := by omega
                  have hml : m < rest.length := by rw [HRL.out]; exact hlt
                  obtain ⟨y, hy⟩ : ∃ y, rest[m] = y := ⟨_, rfl⟩
                  have hc := (HCE.out (by omega)).2 m hml
                  rw [hy] at hc
                  have haa := (HCE.out (by omega)).1
                  have HN : Hid (((rest.take (m + 1)).all fun b => b == 1) = (A && (y == 1))) := by
                    show ((rest.take (m + 1)).all fun b => b == 1) = (A && (y == 1))
                    rw [all_snoc hml hy, HA.out]
                  clear hy hml
                  cases A with
                  | false =>
                    go_wp2
                    go_round
                    case rel => exact ⟨m + 1, by omega, by go_num, val_bool (by rw [HN.out]; rfl)⟩
                    case measure => simp [intOf]; omega
                  | true =>
                    go_wp2
                    go_round
                    case rel => exact ⟨m + 1, by omega, by go_num, val_bool (by rw [HN.out]; rfl)⟩
                    case measure => simp [intOf]; omega
                · have hmR : m = R := by omega
                  have HAL : Hid ((rest.all fun b => b == 1) = A) := by
                    show (rest.all fun b => b == 1) = A
                    rw [← HA.out, List.take_of_length_le (by rw [HRL.out]; omega)]
                  clear hmR
                  cases A with
                  | false =>
                    go_wp2
                    go_ret2
                    refine ⟨ret_sb (by rw [HFIN.out]) ?_, hbel⟩
                    rw [HFIN.out]; unfold unpOk; rw [HAL.out]; rfl
                  | true =>
                    by_cases h8 : R < 8
                    · have h8' : (R : Int) < 8 := by omega
                      go_wp2
                      go_ret2
                      refine ⟨ret_sb (by rw [HFIN.out]) ?_, hbel⟩
                      rw [HFIN.out]; unfold unpOk; rw [HAL.out, HRL.out, strOfNums_size]; simp [h8]; omega
                    · have h8' : (8 : Int) ≤ R := by omega
                      first
                        | (exfalso; omega)
                        | (go_wp2
                           go_ret2
                           refine ⟨ret_sb (by rw [HFIN.out]) ?_, hbel⟩
                           rw [HFIN.out]; unfold unpOk; rw [HAL.out, HRL.out]; simp [h8])
        · have hT5 : ((T - o : Nat) : Int) < 5 := by omega
          have HST : Hid (stepU (bs.drop o) = none) := by
            show stepU (bs.drop o) = none
            unfold stepU
            rw [if_pos (by rw [List.length_drop, HBL.out]; omega)]
          have hend := unp_end HUN.out HST.out
          have HE : Hid (unp bs = (outL, bs.drop o)) := hend
          clear hend
          obtain ⟨R, hR⟩ : ∃ R, T - o = R := ⟨_, rfl⟩
          have hRl : (bs.drop o).length = R := by rw [List.length_drop, HBL.out]; exact hR
          obtain ⟨rest, hrest⟩ : ∃ rest, bs.drop o = rest := ⟨_, rfl⟩
          have hcells : 0 < R → a = some ⟨g, o, none⟩ ∧ ∀ i (hi : i < rest.length), wr.cell? ⟨g, o + i, none⟩ = some (.int .i64 rest[i]) := by
            intro h
            refine ⟨ha (by omega), ?_⟩
            intro i hi
            subst hrest
            have hi2 : o + i < bs.length := by rw [List.length_drop] at hi; omega
            have := hown.cells (g := g) rfl (o + i) (.int .i64 bs[o + i]) (by simp [hi2])
            rw [Addr.add_lit, show (0 : Nat) + (o + i) = o + i by omega] at this
            rw [this]
            simp
          have HCE : Hid (0 < R → a = some ⟨g, o, none⟩ ∧ ∀ i (hi : i < rest.length), wr.cell? ⟨g, o + i, none⟩ = some (.int .i64 rest[i])) := hcells
          rw [hrest] at hRl
          have HRL : Hid (rest.length = R) := hRl
          have HFIN : Hid (unp (bytesB (bytesL s)) = (outL, rest)) := by show unp (bytesB (bytesL s)) = (outL, rest); rw [HU.out, HE.out, hrest]
          have hRc : (R : Int) ≤ ((c - o : Nat) : Int) := by omega
          have hRm : R ≤ 128 := by omega
          have hso : (strOfNums outL).size ≤ 100 := by rw [strOfNums_size]; omega
          clear hcells hRl hrest ha HE HST HUN
          go_wp2
          try rw [hR]
          clear hR
          go_loop [9, 10] (fun ones i => ∃ k : Nat, k ≤ R ∧ i = .int .i64 k ∧ ones = .bool ((rest.take k).all fun b => b == 1)) (fun _ i => R - (intOf i).toNat)
          case atStart => exact ⟨0, by omega, rfl, rfl⟩
          case round =>
            obtain ⟨m, hm, rfl, rfl⟩ := hrel
            obtain ⟨A, hA⟩ : ∃ A, ((rest.take m).all fun b => b == 1) = A := ⟨_, rfl⟩
            rw [hA]
            have HA : Hid (((rest.take m).all fun b => b == 1) = A) := hA
            clear hA
            by_cases hlt : m < R
            · have hlt' : (m : Int) < R := by omega
              have hml : m < rest.length := by rw [HRL.out]; exact hlt
              obtain ⟨y, hy⟩ : ∃ y, rest[m] = y := ⟨_, rfl⟩
              have hc := (HCE.out (by omega)).2 m hml
              rw [hy] at hc
              have haa := (HCE.out (by omega)).1
              have HN : Hid (((rest.take (m + 1)).all fun b => b == 1) = (A && (y == 1))) := by
                show ((rest.take (m + 1)).all fun b => b == 1) = (A && (y == 1))
                rw [all_snoc hml hy, HA.out]
              clear hy hml
              cases A with
              | false =>
                go_wp2
                go_round
                case rel => exact ⟨m + 1, by omega, by go_num, val_bool (by rw [HN.out]; rfl)⟩
                case measure => simp [intOf]; omega
              | true =>
                go_wp2
                go_round
                case rel => exact ⟨m + 1, by omega, by go_num, val_bool (by rw [HN.out]; rfl)⟩
                case measure => simp [intOf]; omega
            · have hmR : m = R := by omega
              have HAL : Hid ((rest.all fun b => b == 1) = A) := by
                show (rest.all fun b => b == 1) = A
                rw [← HA.out, List.take_of_length_le (by rw [HRL.out]; omega)]
              clear hmR
              cases A with
              | false =>
                go_wp2
                go_ret2
                refine ⟨ret_sb (by rw [HFIN.out]) ?_, hbel⟩
                rw [HFIN.out]; unfold unpOk; rw [HAL.out]; rfl
              | true =>
                by_cases h8 : R < 8
                · have h8' : (R : Int) < 8 := by omega
                  go_wp2
                  go_ret2
                  refine ⟨ret_sb (by rw [HFIN.out]) ?_, hbel⟩
                  rw [HFIN.out]; unfold unpOk; rw [HAL.out, HRL.out, strOfNums_size]; simp [h8]; omega
                · have h8' : (8 : Int) ≤ R := by omega
                  first
                    | (exfalso; omega)
                    | (go_wp2
                       go_ret2
                       refine ⟨ret_sb (by rw [HFIN.out]) ?_, hbel⟩
                       rw [HFIN.out]; unfold unpOk; rw [HAL.out, HRL.out]; simp [h8])
end Go.Proofs.Ytadidkkpokpocaw
