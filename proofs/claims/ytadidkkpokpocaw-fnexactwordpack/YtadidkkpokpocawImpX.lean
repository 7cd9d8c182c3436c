import Derived.Test.YtadidkkpokpocawImpU
import Derived.Test.YtadidkkpokpocawWSpec
namespace Go.Proofs.Ytadidkkpokpocaw
open Go.RowKit
set_option linter.unusedVariables false

set_option maxRecDepth 100000 in
set_option maxHeartbeats 400000 in
theorem implPack (s : ByteArray) (w : World) (hm : s.size ≤ maxLen) :
    Calls Try.prog 19 #[.string s] w fun e w' => e = .returned (.string (packV s)) ∧ Below w.heap.size w w' := by
  cases hw : wOk (bytesL s) with
  | true =>
    have h := wOk_signs hw
    rw [bytesL_length] at h
    unfold packV
    rw [if_pos hw]
    exact implPack_yes s w h.2 h.1 hw
  | false =>
    have hok := implOk s w hm
    rw [hw] at hok
    unfold packV
    rw [if_neg (by rw [hw]; decide)]
    clear hw
    go_enter Try.func19, Try.ntmps19
    go_wp2_with (go_at_call 17; refine hok.mono ?_; rintro e w1 ⟨rfl, hb1⟩)
    go_ret
    exact ⟨rfl, hb1⟩
theorem qL_bytes (l : List Int) : qL (codesQ (l.map fun c => (c, 8))) = bytesB l := by
  induction l with
  | nil => rfl
  | cons c t ih =>
    have e : qL (codesQ ((c :: t).map fun c => (c, 8))) = (bitsQ 8 c).map (·.1) ++ qL (codesQ (t.map fun c => (c, 8))) := by simp [qL, codesQ]
    have e2 : bytesB (c :: t) = bitsL 8 c ++ bytesB t := by simp [bytesB]
    rw [e, ih, bitsQ_map, e2]
/-- What the signs of bits are. -/
def decV (s : ByteArray) : ByteArray := strOfNums (unp (bytesB (bytesL s))).1
theorem signs_bd {l : List Int} (h : ∀ c ∈ l, 0 ≤ sgn c) : ∀ x ∈ l, 0 ≤ x ∧ x ≤ 255 := by
  intro x hx
  have h1 := h x hx
  have h2 := sgn_back h1
  have h3 := sgn_lt x
  have : WS.getD (sgn x).toNat 0 ∈ WS := by
    have hl : (sgn x).toNat < WS.length := by rw [WS_length]; omega
    rw [List.getD_eq_getElem?_getD, List.getElem?_eq_getElem hl]
    exact List.getElem_mem hl
  rw [h2] at this
  exact WS_bd x this
theorem bytesL_decV (s : ByteArray) : bytesL (decV s) = (unp (bytesB (bytesL s))).1 :=
  bytesL_strOfNums _ (signs_bd (unp_back _ (bytesB_bit _)).1)
theorem decV_size (s : ByteArray) (h : s.size ≤ 16) : (decV s).size ≤ 26 := by
  rw [← bytesL_length, bytesL_decV]
  have h1 := unp_left_len (bytesB (bytesL s)) (bytesB_bit _)
  have h2 := packB_len_ge (unp (bytesB (bytesL s))).1
  rw [bytesB_length, bytesL_length] at h1
  omega
theorem unpV_dec (s : ByteArray) (h : s.size ≤ 16) : unpV s = if packV (decV s) = s then (decV s, true) else (⟨#[]⟩, false) := by
  have hbd := bytesL_bd s
  by_cases hp : packV (decV s) = s
  · rw [if_pos hp]
    cases hw : wOk (bytesL (decV s)) with
    | true =>
      have h2 := wOk_signs hw
      have e0 : packV (decV s) = strOfNums (packL (bytesL (decV s))) := by unfold packV; rw [if_pos hw]
      have e : bytesL s = packL (bytesL (decV s)) := (congrArg bytesL (hp.symm.trans e0)).trans (bytesL_strOfNums _ (packL_bd _))
      unfold unpV
      rw [e, unpL_pack _ h2.1 h2.2]
      show (strOfNums (bytesL (decV s)), true) = (decV s, true)
      rw [strOfNums_bytesL]
    | false =>
      exfalso
      have hs : s = ⟨#[]⟩ := by rw [← hp]; unfold packV; rw [if_neg (by rw [hw]; decide)]
      have : wOk (bytesL (decV s)) = true := by
        rw [bytesL_decV, hs]
        rfl
      rw [this] at hw
      exact absurd hw (by decide)
  · rw [if_neg hp]
    unfold unpV
    match hu : unpL (bytesL s) with
    | none => rfl
    | some o =>
      exfalso
      apply hp
      obtain ⟨h1, h2, h3⟩ := unpL_strict _ _ hbd hu
      have ho : o = (unp (bytesB (bytesL s))).1 := by
        unfold unpL at hu
        rw [if_neg (by rw [bytesL_length]; omega)] at hu
        split at hu
        · injection hu with hu; exact hu.symm
        · cases hu
      have e : bytesL (decV s) = o := by rw [bytesL_decV, ho]
      have hw : wOk (bytesL (decV s)) = true := by
        rw [e]
        unfold wOk
        rw [show (o.all fun c => decide (0 ≤ sgn c)) = true by rw [List.all_eq_true]; intro x hx; simpa using h1 x hx]
        simpa using h2
      unfold packV
      rw [if_pos hw, e, h3, strOfNums_bytesL]
theorem unpV_big (s : ByteArray) (h : ¬ s.size ≤ 16) : unpV s = (⟨#[]⟩, false) := by
  unfold unpV unpL
  rw [if_pos (by rw [bytesL_length]; omega)]
set_option maxRecDepth 100000 in
set_option maxHeartbeats 400000 in
theorem implUnpack (s : ByteArray) (w : World) (hm : s.size ≤ maxLen) :
    Calls Try.prog 21 #[.string s] w fun e w' => e = .returned (.tuple #[.string (unpV s).1, .bool (unpV s).2]) ∧ Below w.heap.size w w' := by
  by_cases hz : s.size ≤ 16
  · have hds := decV_size s hz
    have HU : Hid (unpV s = if packV (decV s) = s then (decV s, true) else (⟨#[]⟩, false)) := unpV_dec s hz
    have hz' : (s.size : Int) ≤ 16 := by omega
    obtain ⟨p, hp⟩ : ∃ p, packV (decV s) = p := ⟨_, rfl⟩
    rw [hp] at HU
    have hpk : ∀ w, Calls Try.prog 19 #[.string (decV s)] w fun e w' => e = .returned (.string p) ∧ Below w.heap.size w w' := by
      intro w
      have := implPack (decV s) w (by unfold maxLen; omega)
      rw [hp] at this
      exact this
    have hcl : (codesQ ((bytesL s).map fun c => (c, (8 : Int)))).length ≤ 128 := by
      rw [← qL_length, qL_bytes, bytesB_length, bytesL_length]; omega
    have hob : ∀ (Bn cap base : Nat) (a : Option Addr) (w : World), w.heap[Bn]? = some (.cells #[.slice a s.size cap] 72 (0, 0)) → w.ownsRow base 75 2 (.slice a s.size cap) s.size (cellsC ((bytesL s).map fun c => (c, (8 : Int)))) →
        Calls Try.prog 40 #[.func (.func 61) #[] #[.pointer (some ⟨Bn, 0, none⟩)]] w fun e w' => e = .returned (.string (decV s)) ∧ Below w.heap.size w w' := by
      intro Bn cap base a w h1 h2
      have := ofBits_any Bn s.size cap base a ((bytesL s).map fun c => (c, (8 : Int))) (by
        intro c hc
        obtain ⟨x, hx, rfl⟩ := List.mem_map.1 hc
        have := bytesL_bd s x hx
        exact ⟨this.1, this.2, by omega, by omega⟩) (by rw [List.length_map, bytesL_length]) hz hcl w h1 h2
      rw [qL_bytes] at this
      exact this
    clear hp hcl
    by_cases hps : p = s
    · subst hps
      rw [if_pos rfl] at HU
      rw [HU.out]
      clear HU
      go_enter Try.func21, Try.ntmps21
      go_wp2_with (first | (go_at_call 41; refine (byteCodes_any _ _ hz).mono ?_; rintro e w1 ⟨v1, rfl, hown1, hb1⟩; obtain ⟨a1, c1, rfl⟩ := own_form' hown1) | (go_at_call 37; refine (wordBits_any _ _ _ _).mono ?_; rintro e w2 ⟨rfl, rfl⟩) | (go_at_call 40; refine (hob _ _ _ _ _ (heap_alloc_last _ _) (hown1.alloc _)).mono ?_; rintro e w3 ⟨rfl, hb3⟩) | (go_at_call 19; refine (hpk _).mono ?_; rintro e w4 ⟨rfl, hb4⟩))
      go_ret2
      exact ⟨rfl, ((hb1.alloc hb1.size _).trans (hb3.mono (by have := hb1.size; simp; omega))).trans (hb4.mono (Nat.le_trans (Nat.le_trans hb1.size (by simp)) hb3.size))⟩
    · rw [if_neg hps] at HU
      rw [HU.out]
      clear HU
      have hne : (p.toList == s.toList) = false := neF hps
      clear hps
      go_enter Try.func21, Try.ntmps21
      go_wp2_with (first | (go_at_call 41; refine (byteCodes_any _ _ hz).mono ?_; rintro e w1 ⟨v1, rfl, hown1, hb1⟩; obtain ⟨a1, c1, rfl⟩ := own_form' hown1) | (go_at_call 37; refine (wordBits_any _ _ _ _).mono ?_; rintro e w2 ⟨rfl, rfl⟩) | (go_at_call 40; refine (hob _ _ _ _ _ (heap_alloc_last _ _) (hown1.alloc _)).mono ?_; rintro e w3 ⟨rfl, hb3⟩) | (go_at_call 19; refine (hpk _).mono ?_; rintro e w4 ⟨rfl, hb4⟩))
      go_ret2
      exact ⟨rfl, ((hb1.alloc hb1.size _).trans (hb3.mono (by have := hb1.size; simp; omega))).trans (hb4.mono (Nat.le_trans (Nat.le_trans hb1.size (by simp)) hb3.size))⟩
  · have hz' : (16 : Int) < s.size := by omega
    rw [unpV_big s hz]
    unfold maxLen at hm
    go_enter Try.func21, Try.ntmps21
    go_wp2
    go_ret2
    exact ⟨rfl, Below.refl _ _⟩
end Go.Proofs.Ytadidkkpokpocaw
