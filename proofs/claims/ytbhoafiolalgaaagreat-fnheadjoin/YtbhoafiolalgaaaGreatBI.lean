import Derived.Test.YtbhoafiolalgaaaGreatImpU
import Derived.Test.YtbhoafiolalgaaaGreatBC
import Derived.Test.YtbhoafiolalgaaaGreatNumW
import Derived.Test.YtbhoafiolalgaaaGreatBG
import Derived.Test.YtbhoafiolalgaaaGreatNumR7
namespace Go.Proofs.YtbhoafiolalgaaaGreat
open Go.RowKit
set_option linter.unusedVariables false

set_option maxRecDepth 100000 in
set_option maxHeartbeats 400000 in
theorem implPack (s : ByteArray) (w : World) (hm : s.size ≤ maxLen) :
    Calls Tryz.prog 96 #[.string s] w fun e w' => e = .returned (.string (packV s)) ∧ Below w.heap.size w w' := by
  cases hw : wOk (bytesL s) with
  | true =>
    have h := wOk_signs hw
    rw [bytesL_length] at h
    unfold packV
    rw [if_pos hw]
    exact implPack_yes s w h.2 h.1 hw
  | false =>
    have hok := implOk s w hm
    rw [hw] at hok
    unfold packV
    rw [if_neg (by rw [hw]; decide)]
    clear hw
    go_enter Tryz.func96, Tryz.ntmps96
    go_wp2_with (go_at_call 49; refine hok.mono ?_; rintro e w1 ⟨rfl, hb1⟩)
    go_ret
    exact ⟨rfl, hb1⟩
theorem qL_bytes (l : List Int) : qL (codesQ (l.map fun c => (c, 8))) = bytesB l := by
  induction l with
  | nil => rfl
  | cons c t ih =>
    have e : qL (codesQ ((c :: t).map fun c => (c, 8))) = (bitsQ 8 c).map (·.1) ++ qL (codesQ (t.map fun c => (c, 8))) := by simp [qL, codesQ]
    have e2 : bytesB (c :: t) = bitsL 8 c ++ bytesB t := by simp [bytesB]
    rw [e, ih, bitsQ_map, e2]
/-- What the signs of bits are. -/
def decV (s : ByteArray) : ByteArray := strOfNums (unp (bytesB (bytesL s))).1
theorem signs_bd {l : List Int} (h : ∀ c ∈ l, 0 ≤ sgn c) : ∀ x ∈ l, 0 ≤ x ∧ x ≤ 255 := by
  intro x hx
  have h1 := h x hx
  have h2 := sgn_back h1
  have h3 := sgn_lt x
  have : WS.getD (sgn x).toNat 0 ∈ WS := by
    have hl : (sgn x).toNat < WS.length := by rw [WS_length]; omega
    rw [List.getD_eq_getElem?_getD, List.getElem?_eq_getElem hl]
    exact List.getElem_mem hl
  rw [h2] at this
  exact WS_bd x this
theorem bytesL_decV (s : ByteArray) : bytesL (decV s) = (unp (bytesB (bytesL s))).1 :=
  bytesL_strOfNums _ (signs_bd (unp_back _ (bytesB_bit _)).1)
theorem decV_size (s : ByteArray) (h : s.size ≤ 16) : (decV s).size ≤ 26 := by
  rw [← bytesL_length, bytesL_decV]
  have h1 := unp_left_len (bytesB (bytesL s)) (bytesB_bit _)
  have h2 := packB_len_ge (unp (bytesB (bytesL s))).1
  rw [bytesB_length, bytesL_length] at h1
  omega
theorem unpV_dec (s : ByteArray) (h : s.size ≤ 16) : unpV s = if packV (decV s) = s then (decV s, true) else (⟨#[]⟩, false) := by
  have hbd := bytesL_bd s
  by_cases hp : packV (decV s) = s
  · rw [if_pos hp]
    cases hw : wOk (bytesL (decV s)) with
    | true =>
      have h2 := wOk_signs hw
      have e0 : packV (decV s) = strOfNums (packL (bytesL (decV s))) := by unfold packV; rw [if_pos hw]
      have e : bytesL s = packL (bytesL (decV s)) := (congrArg bytesL (hp.symm.trans e0)).trans (bytesL_strOfNums _ (packL_bd _))
      unfold unpV
      rw [e, unpL_pack _ h2.1 h2.2]
      show (strOfNums (bytesL (decV s)), true) = (decV s, true)
      rw [strOfNums_bytesL]
    | false =>
      exfalso
      have hs : s = ⟨#[]⟩ := by rw [← hp]; unfold packV; rw [if_neg (by rw [hw]; decide)]
      have : wOk (bytesL (decV s)) = true := by
        rw [bytesL_decV, hs]
        rfl
      rw [this] at hw
      exact absurd hw (by decide)
  · rw [if_neg hp]
    unfold unpV
    match hu : unpL (bytesL s) with
    | none => rfl
    | some o =>
      exfalso
      apply hp
      obtain ⟨h1, h2, h3⟩ := unpL_strict _ _ hbd hu
      have ho : o = (unp (bytesB (bytesL s))).1 := by
        unfold unpL at hu
        rw [if_neg (by rw [bytesL_length]; omega)] at hu
        split at hu
        · injection hu with hu; exact hu.symm
        · cases hu
      have e : bytesL (decV s) = o := by rw [bytesL_decV, ho]
      have hw : wOk (bytesL (decV s)) = true := by
        rw [e]
        unfold wOk
        rw [show (o.all fun c => decide (0 ≤ sgn c)) = true by rw [List.all_eq_true]; intro x hx; simpa using h1 x hx]
        simpa using h2
      unfold packV
      rw [if_pos hw, e, h3, strOfNums_bytesL]
theorem unpV_big (s : ByteArray) (h : ¬ s.size ≤ 16) : unpV s = (⟨#[]⟩, false) := by
  unfold unpV unpL
  rw [if_pos (by rw [bytesL_length]; omega)]
set_option maxRecDepth 100000 in
set_option maxHeartbeats 400000 in
theorem implUnpack (s : ByteArray) (w : World) (hm : s.size ≤ maxLen) :
    Calls Tryz.prog 86 #[.string s] w fun e w' => e = .returned (.tuple #[.string (unpV s).1, .bool (unpV s).2]) ∧ Below w.heap.size w w' := by
  by_cases hz : s.size ≤ 16
  · have hds := decV_size s hz
    have HU : Hid (unpV s = if packV (decV s) = s then (decV s, true) else (⟨#[]⟩, false)) := unpV_dec s hz
    have hz' : (s.size : Int) ≤ 16 := by omega
    obtain ⟨p, hp⟩ : ∃ p, packV (decV s) = p := ⟨_, rfl⟩
    rw [hp] at HU
    have hpk : ∀ w, Calls Tryz.prog 96 #[.string (decV s)] w fun e w' => e = .returned (.string p) ∧ Below w.heap.size w w' := by
      intro w
      have := implPack (decV s) w (by unfold maxLen; omega)
      rw [hp] at this
      exact this
    have hcl : (codesQ ((bytesL s).map fun c => (c, (8 : Int)))).length ≤ 128 := by
      rw [← qL_length, qL_bytes, bytesB_length, bytesL_length]; omega
    have hob : ∀ (Bn cap base : Nat) (a : Option Addr) (w : World), w.heap[Bn]? = some (.cells #[.slice a s.size cap] 126 (0, 0)) → w.ownsRow base 130 2 (.slice a s.size cap) s.size (cellsC ((bytesL s).map fun c => (c, (8 : Int)))) →
        Calls Tryz.prog 93 #[.func (.func 100) #[] #[.pointer (some ⟨Bn, 0, none⟩)]] w fun e w' => e = .returned (.string (decV s)) ∧ Below w.heap.size w w' := by
      intro Bn cap base a w h1 h2
      have := ofBits_any Bn s.size cap base a ((bytesL s).map fun c => (c, (8 : Int))) (by
        intro c hc
        obtain ⟨x, hx, rfl⟩ := List.mem_map.1 hc
        have := bytesL_bd s x hx
        exact ⟨this.1, this.2, by omega, by omega⟩) (by rw [List.length_map, bytesL_length]) hz hcl w h1 h2
      rw [qL_bytes] at this
      exact this
    clear hp hcl
    by_cases hps : p = s
    · subst hps
      rw [if_pos rfl] at HU
      rw [HU.out]
      clear HU
      go_enter Tryz.func86, Tryz.ntmps86
      go_wp2_with (first | (go_at_call 95; refine (byteCodes_any _ _ hz).mono ?_; rintro e w1 ⟨v1, rfl, hown1, hb1⟩; obtain ⟨a1, c1, rfl⟩ := own_form' hown1) | (go_at_call 94; refine (wordBits_any _ _ _ _).mono ?_; rintro e w2 ⟨rfl, rfl⟩) | (go_at_call 93; refine (hob _ _ _ _ _ (heap_alloc_last _ _) (hown1.alloc _)).mono ?_; rintro e w3 ⟨rfl, hb3⟩) | (go_at_call 96; refine (hpk _).mono ?_; rintro e w4 ⟨rfl, hb4⟩))
      go_ret2
      exact ⟨rfl, ((hb1.alloc hb1.size _).trans (hb3.mono (by have := hb1.size; simp; omega))).trans (hb4.mono (Nat.le_trans (Nat.le_trans hb1.size (by simp)) hb3.size))⟩
    · rw [if_neg hps] at HU
      rw [HU.out]
      clear HU
      have hne : (p.toList == s.toList) = false := neF hps
      clear hps
      go_enter Tryz.func86, Tryz.ntmps86
      go_wp2_with (first | (go_at_call 95; refine (byteCodes_any _ _ hz).mono ?_; rintro e w1 ⟨v1, rfl, hown1, hb1⟩; obtain ⟨a1, c1, rfl⟩ := own_form' hown1) | (go_at_call 94; refine (wordBits_any _ _ _ _).mono ?_; rintro e w2 ⟨rfl, rfl⟩) | (go_at_call 93; refine (hob _ _ _ _ _ (heap_alloc_last _ _) (hown1.alloc _)).mono ?_; rintro e w3 ⟨rfl, hb3⟩) | (go_at_call 96; refine (hpk _).mono ?_; rintro e w4 ⟨rfl, hb4⟩))
      go_ret2
      exact ⟨rfl, ((hb1.alloc hb1.size _).trans (hb3.mono (by have := hb1.size; simp; omega))).trans (hb4.mono (Nat.le_trans (Nat.le_trans hb1.size (by simp)) hb3.size))⟩
  · have hz' : (16 : Int) < s.size := by omega
    rw [unpV_big s hz]
    unfold maxLen at hm
    go_enter Tryz.func86, Tryz.ntmps86
    go_wp2
    go_ret2
    exact ⟨rfl, Below.refl _ _⟩
end Go.Proofs.YtbhoafiolalgaaaGreat

namespace Go.Proofs.YtbhoafiolalgaaaGreat
open Go.RowKit
set_option linter.unusedVariables false

theorem numS_small (n head : Int) (h : n < 127) : numS n 7 head = strOfNums [head * 128 + n] := by
  unfold numS numL
  rw [pw7, if_pos (by omega)]
theorem size_strOfNums (l : List Int) (h : ∀ x ∈ l, 0 ≤ x ∧ x ≤ 255) : (strOfNums l).size = l.length := by
  rw [← bytesL_length, bytesL_strOfNums l h]
set_option maxRecDepth 100000 in
set_option maxHeartbeats 400000 in
theorem implWrite (s : ByteArray) (w : World) (hm : s.size ≤ maxLen) :
    Calls Tryz.prog 121 #[.string s] w fun e w' => e = .returned (.string (wrV s)) ∧ Below w.heap.size w w' := by
  have HM : Hid (s.size ≤ maxLen) := hm
  cases hw : wOk (bytesL s) with
  | false =>
    have hok := implOk s w hm
    rw [hw] at hok
    unfold wrV
    rw [if_neg (by rw [hw]; decide)]
    clear hw hm
    go_enter Tryz.func121, Tryz.ntmps121
    go_wp2_with (go_at_call 49; refine hok.mono ?_; rintro e w1 ⟨rfl, hb1⟩)
    go_ret
    exact ⟨rfl, hb1⟩
  | true =>
    have h2 := wOk_signs hw
    rw [bytesL_length] at h2
    have hz := h2.2
    have hok := implOk_yes s w hz hw
    have hpv : packV s = strOfNums (packL (bytesL s)) := by unfold packV; rw [if_pos hw]
    have HWR : Hid (wrV s = strOfNums (wrL (bytesL s))) := by show wrV s = _; unfold wrV; rw [if_pos hw]
    have hps : (packV s).size = (packL (bytesL s)).length := by rw [hpv, size_strOfNums _ (packL_bd _)]
    have hle := packL_le (bytesL s)
    rw [bytesL_length] at hle
    obtain ⟨p, hp⟩ : ∃ p, packV s = p := ⟨_, rfl⟩
    rw [hp] at hpv hps
    have hpk : ∀ w, Calls Tryz.prog 96 #[.string s] w fun e w' => e = .returned (.string p) ∧ Below w.heap.size w w' := by
      intro w
      have := implPack s w HM.out
      rw [hp] at this
      exact this
    have HPV : Hid (p = strOfNums (packL (bytesL s))) := hpv
    have HPS : Hid (p.size = (packL (bytesL s)).length) := hps
    have hp16 : (p.size : Int) ≤ 16 := by omega
    have hz' : (s.size : Int) ≤ 16 := by omega
    clear hpv hps hp hw h2 hm hle
    by_cases hlt : p.size < s.size
    · have hlt' : (p.size : Int) < s.size := by omega
      have HR : Hid (numS (p.size : Int) 7 1 ++ p = wrV s) := by
        show numS (p.size : Int) 7 1 ++ p = wrV s
        rw [HWR.out, numS_small _ _ (by omega)]
        unfold wrL
        rw [if_pos (by have := HPS.out; rw [bytesL_length]; omega), HPV.out, size_strOfNums _ (packL_bd _), strOfNums_append]
        congr 1
      have hns : (numS (p.size : Int) 7 1).size ≤ 3 := by rw [numS_small _ _ (by omega), size_strOfNums _ (by intro x hx; simp at hx; omega)]; simp
      go_enter Tryz.func121, Tryz.ntmps121
      go_wp2_with (first | (go_at_call 49; refine hok.mono ?_; rintro e w1 ⟨rfl, hb1⟩) | (go_at_call 96; refine (hpk _).mono ?_; rintro e w2 ⟨rfl, hb2⟩) | (go_at_call 67; refine (nw7 _ _ _ (by omega) (by omega) (by omega) (by omega)).mono ?_; rintro e w3 ⟨rfl, hb3⟩))
      go_ret
      exact ⟨ret_str HR.out, (hb1.trans (hb2.mono hb1.size)).trans (hb3.mono (Nat.le_trans hb1.size hb2.size))⟩
    · have hge : (s.size : Int) ≤ p.size := by omega
      have HR : Hid (numS (s.size : Int) 7 0 ++ s = wrV s) := by
        show numS (s.size : Int) 7 0 ++ s = wrV s
        rw [HWR.out, numS_small _ _ (by omega)]
        unfold wrL
        rw [if_neg (by have := HPS.out; rw [bytesL_length]; omega)]
        have e1 : strOfNums [0 * 128 + (s.size : Int)] ++ s = strOfNums [0 * 128 + (s.size : Int)] ++ strOfNums (bytesL s) := by rw [strOfNums_bytesL]
        rw [e1, strOfNums_append, bytesL_length, Int.zero_mul, Int.zero_add]
        rfl
      have hns : (numS (s.size : Int) 7 0).size ≤ 3 := by rw [numS_small _ _ (by omega), size_strOfNums _ (by intro x hx; simp at hx; omega)]; simp
      go_enter Tryz.func121, Tryz.ntmps121
      go_wp2_with (first | (go_at_call 49; refine hok.mono ?_; rintro e w1 ⟨rfl, hb1⟩) | (go_at_call 96; refine (hpk _).mono ?_; rintro e w2 ⟨rfl, hb2⟩) | (go_at_call 67; refine (nw7 _ _ _ (by omega) (by omega) (by omega) (by omega)).mono ?_; rintro e w3 ⟨rfl, hb3⟩))
      go_ret
      exact ⟨ret_str HR.out, (hb1.trans (hb2.mono hb1.size)).trans (hb3.mono (Nat.le_trans hb1.size hb2.size))⟩

end Go.Proofs.YtbhoafiolalgaaaGreat

namespace Go.Proofs.YtbhoafiolalgaaaGreat
open Go.RowKit
set_option linter.unusedVariables false

theorem ir7_is (s : ByteArray) (n u : Int) (ok : Bool) (w : World) (hm : s.size ≤ maxLen) (hrd : rd 128 (bytesL s) = (n, u, ok)) :
    Calls Tryz.prog 43 #[.string s, .int .i64 7] w fun e w' => e = .returned (.tuple #[.int .i64 n, .int .i64 u, .bool ok]) ∧ Below w.heap.size w w' := by
  have := ir7 s w hm
  rw [hrd] at this
  exact this
set_option maxRecDepth 100000 in
set_option maxHeartbeats 400000 in
theorem implRead_no (s : ByteArray) (n u : Int) (ok : Bool) (w : World) (hm : s.size ≤ maxLen) (hrd : rd 128 (bytesL s) = (n, u, ok)) (h : ok = false ∨ 16 < n) (n1 : n ≤ 10000) :
    Calls Tryz.prog 68 #[.string s] w fun e w' => e = .returned (.tuple #[.string ⟨#[]⟩, .int .i64 0, .bool false]) ∧ Below w.heap.size w w' := by
  have hir := ir7_is s n u ok w hm hrd
  unfold maxLen at hm
  clear hrd
  cases ok with
  | false =>
    clear h
    go_enter Tryz.func68, Tryz.ntmps68
    go_wp2_with (go_at_call 43; refine hir.mono ?_; rintro e w1 ⟨rfl, hb1⟩)
    go_ret3
    exact ⟨rfl, hb1⟩
  | true =>
    have h16 : 16 < n := by simpa using h
    clear h
    go_enter Tryz.func68, Tryz.ntmps68
    go_wp2_with (go_at_call 43; refine hir.mono ?_; rintro e w1 ⟨rfl, hb1⟩)
    go_ret3
    exact ⟨rfl, hb1⟩

set_option maxRecDepth 100000 in
set_option maxHeartbeats 1000000 in
theorem implRead_yes (s : ByteArray) (a : Int) (t : List Int) (w : World) (hm : s.size ≤ maxLen) (hl : bytesL s = a :: t) (h16 : ¬ 16 < a % 128) :
    Calls Tryz.prog 68 #[.string s] w fun e w' => e = .returned (.tuple #[.string (rdWV s).1, .int .i64 (rdWV s).2.1, .bool (rdWV s).2.2]) ∧ Below w.heap.size w w' := by
  have HM : Hid (s.size ≤ maxLen) := hm
  unfold maxLen at hm
  obtain ⟨hk, q0, x0, x1⟩ := of_cons (k := 0) (x := a) hl rfl
  have hrd : rd 128 (bytesL s) = (a % 128, 1, true) := by
    rw [hl]
    match t with
    | [] => rw [rd1, if_pos (by omega)]
    | [b] => rw [rd2, if_pos (by omega)]
    | b :: c :: u => rw [rd3, if_pos (by omega)]
  have hlen : s.size = t.length + 1 := by rw [← bytesL_length, hl]; rfl
  obtain ⟨n, hn⟩ : ∃ n : Nat, a % 128 = (n : Int) := ⟨(a % 128).toNat, by omega⟩
  rw [hn] at hrd
  have hir := ir7_is s n 1 true w HM.out hrd
  have hn16 : (n : Int) ≤ 16 := by omega
  have HW : Hid (rdWL (bytesL s) = if (t.length : Int) < a % 128 then none else if 128 ≤ a then (unpL (t.take (a % 128).toNat)).map (fun o => (o, 1 + a % 128)) else if wOk (t.take (a % 128).toNat) then some (t.take (a % 128).toNat, 1 + a % 128) else none) := by
    show rdWL (bytesL s) = _
    rw [hl, rdWL_cons, if_neg h16]
  have HN : Hid (a % 128 = (n : Int)) := hn
  have HT : Hid (s.size = t.length + 1) := hlen
  clear hrd hn hlen h16
  by_cases hfit : (s.size : Int) < 1 + n
  · have HV : Hid (rdWV s = (⟨#[]⟩, 0, false)) := by
      show rdWV s = _
      unfold rdWV
      rw [HW.out, if_pos (by have := HT.out; have := HN.out; omega)]
    have hfit2 : (s.size : Int) - 1 < n := by omega
    clear hfit
    go_enter Tryz.func68, Tryz.ntmps68
    go_wp2_with (go_at_call 43; refine hir.mono ?_; rintro e w1 ⟨rfl, hb1⟩)
    go_ret3
    exact ⟨ret_sib (by rw [HV.out]) (by rw [HV.out]) (by rw [HV.out]), hb1⟩
  · have hfit2 : (n : Int) ≤ s.size - 1 := by omega
    have hx : bytesL (s.extract 1 (1 + n)) = t.take n := by
      rw [bytesL_extract, hl, Nat.add_comm 1 n, List.take_succ_cons]; rfl
    have HX : Hid (bytesL (s.extract 1 (1 + n)) = t.take n) := hx
    have hx16 : (s.extract 1 (1 + n)).size ≤ 16 := by
      rw [ByteArray.size_extract]; omega
    have HXM : Hid ((s.extract 1 (1 + n)).size ≤ maxLen) := by
      show (s.extract 1 (1 + n)).size ≤ maxLen
      unfold maxLen; omega
    have HW2 : Hid (rdWL (bytesL s) = if 128 ≤ a then (unpL (t.take n)).map (fun o => (o, 1 + (n : Int))) else if wOk (t.take n) then some (t.take n, 1 + (n : Int)) else none) := by
      show rdWL (bytesL s) = _
      have hnn : (a % 128).toNat = n := by rw [HN.out]; simp
      rw [HW.out, if_neg (by have := HT.out; have := HN.out; omega), hnn, HN.out]
    clear HW hx hl
    have hsl : ∀ W : World, (Instr.slice 9 (.string s) (some (.int .i64 1)) (some (.int .i64 (1 + (n : Int)))) none).run Tryz.prog W = .ok (.string (s.extract 1 (1 + n))) W := fun W => by
      have h := run_slice_string (P := Tryz.prog) W 9 s .i64 .i64 1 (1 + (n : Int)) Tryz.underlying9 (by decide) (by omega) (by omega)
      rw [show (1 + (n : Int)).toNat = 1 + n by omega] at h
      exact h
    clear hfit
    obtain ⟨x, hxe⟩ : ∃ x, s.extract 1 (1 + n) = x := ⟨_, rfl⟩
    rw [hxe] at HX hx16 HXM hsl
    by_cases h128 : 128 ≤ a
    · obtain ⟨⟨o, ok⟩, hu⟩ : ∃ r, unpV x = r := ⟨_, rfl⟩
      have HU : Hid (unpV x = (o, ok)) := hu
      have hup : ∀ w, Calls Tryz.prog 86 #[.string x] w fun e w' => e = .returned (.tuple #[.string o, .bool ok]) ∧ Below w.heap.size w w' := by
        intro w
        have := implUnpack x w HXM.out
        rw [hu] at this
        exact this
      clear hu hxe
      cases ok with
      | false =>
        have HV : Hid (rdWV s = (⟨#[]⟩, 0, false)) := by
          show rdWV s = _
          have h1 := HU.out
          unfold unpV at h1
          rw [HX.out] at h1
          unfold rdWV
          rw [HW2.out, if_pos h128]
          match hq : unpL (t.take n) with
          | none => rfl
          | some z => rw [hq] at h1; simp at h1
        go_enter Tryz.func68, Tryz.ntmps68
        go_wp2_with (first | (go_at_call 43; refine hir.mono ?_; rintro e w1 ⟨rfl, hb1⟩) | (go_at_call 85; refine (clone_any x _ hx16).mono ?_; rintro e w2 ⟨rfl, hb2⟩) | (go_at_call 86; refine (hup _).mono ?_; rintro e w3 ⟨rfl, hb3⟩))
        go_ret3
        exact ⟨ret_sib (by rw [HV.out]) (by rw [HV.out]) (by rw [HV.out]), (hb1.trans (hb2.mono hb1.size)).trans (hb3.mono (Nat.le_trans hb1.size hb2.size))⟩
      | true =>
        have HV : Hid (rdWV s = (o, 1 + (n : Int), true)) := by
          show rdWV s = _
          have h1 := HU.out
          unfold unpV at h1
          rw [HX.out] at h1
          unfold rdWV
          rw [HW2.out, if_pos h128]
          match hq : unpL (t.take n) with
          | none => rw [hq] at h1; simp at h1
          | some z => rw [hq] at h1; simp at h1; rw [← h1]; rfl
        go_enter Tryz.func68, Tryz.ntmps68
        go_wp2_with (first | (go_at_call 43; refine hir.mono ?_; rintro e w1 ⟨rfl, hb1⟩) | (go_at_call 85; refine (clone_any x _ hx16).mono ?_; rintro e w2 ⟨rfl, hb2⟩) | (go_at_call 86; refine (hup _).mono ?_; rintro e w3 ⟨rfl, hb3⟩))
        go_ret3
        exact ⟨ret_sib (by rw [HV.out]) (by rw [HV.out]) (by rw [HV.out]), (hb1.trans (hb2.mono hb1.size)).trans (hb3.mono (Nat.le_trans hb1.size hb2.size))⟩
    · have h128' : a < 128 := by omega
      obtain ⟨ok, hok⟩ : ∃ ok, wOk (t.take n) = ok := ⟨_, rfl⟩
      have HK : Hid (wOk (t.take n) = ok) := hok
      have hwo : ∀ w, Calls Tryz.prog 49 #[.string x] w fun e w' => e = .returned (.bool ok) ∧ Below w.heap.size w w' := by
        intro w
        have := implOk x w HXM.out
        rw [HX.out, hok] at this
        exact this
      have HXE : Hid (s.extract 1 (1 + n) = x) := hxe
      clear hok hxe
      cases ok with
      | false =>
        have HV : Hid (rdWV s = (⟨#[]⟩, 0, false)) := by
          show rdWV s = _
          unfold rdWV
          rw [HW2.out, if_neg (by omega), HK.out]; rfl
        go_enter Tryz.func68, Tryz.ntmps68
        go_wp2_with (first | (go_at_call 43; refine hir.mono ?_; rintro e w1 ⟨rfl, hb1⟩) | (go_at_call 85; refine (clone_any x _ hx16).mono ?_; rintro e w2 ⟨rfl, hb2⟩) | (go_at_call 49; refine (hwo _).mono ?_; rintro e w3 ⟨rfl, hb3⟩))
        go_ret3
        exact ⟨ret_sib (by rw [HV.out]) (by rw [HV.out]) (by rw [HV.out]), (hb1.trans (hb2.mono hb1.size)).trans (hb3.mono (Nat.le_trans hb1.size hb2.size))⟩
      | true =>
        have HV : Hid (rdWV s = (x, 1 + (n : Int), true)) := by
          show rdWV s = _
          unfold rdWV
          rw [HW2.out, if_neg (by omega), HK.out]
          show (strOfNums (t.take n), 1 + (n : Int), true) = _
          rw [← HX.out, strOfNums_bytesL]
        go_enter Tryz.func68, Tryz.ntmps68
        go_wp2_with (first | (go_at_call 43; refine hir.mono ?_; rintro e w1 ⟨rfl, hb1⟩) | (go_at_call 85; refine (clone_any x _ hx16).mono ?_; rintro e w2 ⟨rfl, hb2⟩) | (go_at_call 49; refine (hwo _).mono ?_; rintro e w3 ⟨rfl, hb3⟩))
        go_ret3
        exact ⟨ret_sib (by rw [HV.out]) (by rw [HV.out]) (by rw [HV.out]), (hb1.trans (hb2.mono hb1.size)).trans (hb3.mono (Nat.le_trans hb1.size hb2.size))⟩

theorem implRead (s : ByteArray) (w : World) (hm : s.size ≤ maxLen) :
    Calls Tryz.prog 68 #[.string s] w fun e w' => e = .returned (.tuple #[.string (rdWV s).1, .int .i64 (rdWV s).2.1, .bool (rdWV s).2.2]) ∧ Below w.heap.size w w' := by
  match hl : bytesL s with
  | [] =>
    have HV : rdWV s = (⟨#[]⟩, 0, false) := by unfold rdWV; rw [hl]; rfl
    rw [HV]
    exact implRead_no s 0 0 false w hm (by rw [hl]; rfl) (.inl rfl) (by omega)
  | a :: t =>
    have hbd := bytesL_bd s
    rw [hl] at hbd
    have ha := hbd a (by simp)
    by_cases h16 : 16 < a % 128
    · have HV : rdWV s = (⟨#[]⟩, 0, false) := by unfold rdWV; rw [hl, rdWL_cons, if_pos h16]
      rw [HV]
      obtain ⟨⟨n, u, ok⟩, hr⟩ : ∃ r, rd 128 (a :: t) = r := ⟨_, rfl⟩
      have hn : n ≤ 10000 := by
        match t, hbd, hr with
        | [], _, hr => rw [rd1] at hr; split at hr <;> (simp at hr; omega)
        | [b], hbd, hr =>
          have hb := hbd b (by simp)
          rw [rd2] at hr
          split at hr
          · simp at hr; omega
          · split at hr <;> (simp at hr; omega)
        | b :: c :: u, hbd, hr =>
          rw [rd3] at hr
          split at hr
          · simp at hr; omega
          · split at hr
            · simp at hr; omega
            · split at hr <;> (simp at hr; omega)
      refine implRead_no s n u ok w hm (by rw [hl]; exact hr) ?_ hn
      by_cases h127 : a % 128 < 127
      · refine .inr ?_
        have : rd 128 (a :: t) = (a % 128, 1, true) := by
          match t with
          | [] => rw [rd1, if_pos (by omega)]
          | [b] => rw [rd2, if_pos (by omega)]
          | b :: c :: u => rw [rd3, if_pos (by omega)]
        rw [this] at hr
        simp at hr
        omega
      · have := rd_big a t (fun x hx => hbd x (by simp [hx])) h127
        rw [hr] at this
        exact this
    · exact implRead_yes s a t w hm hl h16
end Go.Proofs.YtbhoafiolalgaaaGreat

namespace Go.Proofs.YtbhoafiolalgaaaGreat
end Go.Proofs.YtbhoafiolalgaaaGreat
