import Derived.Test.YtdnajdobmlgmiaaImpU
import Derived.Test.YtdnajdobmlgmiaaBC
import Derived.Test.YtdnajdobmlgmiaaNumW
import Derived.Test.YtdnajdobmlgmiaaBG
import Derived.Test.YtdnajdobmlgmiaaNumR
import Derived.Deep.RegionHeld3
namespace Go.Proofs.Ytdnajdobmlgmiaa
open Go.RowKit
set_option linter.unusedVariables false

theorem qL_bytes (l : List Int) : qL (codesQ (l.map fun c => (c, 8))) = bytesB l := by
  induction l with
  | nil => rfl
  | cons c t ih =>
    have e : qL (codesQ ((c :: t).map fun c => (c, 8))) = (bitsQ 8 c).map (·.1) ++ qL (codesQ (t.map fun c => (c, 8))) := by simp [qL, codesQ]
    have e2 : bytesB (c :: t) = bitsL 8 c ++ bytesB t := by simp [bytesB]
    rw [e, ih, bitsQ_map, e2]
/-- What the signs of bits are. -/
def decV (s : ByteArray) : ByteArray := strOfNums (unp (bytesB (bytesL s))).1
theorem signs_bd {l : List Int} (h : ∀ c ∈ l, 0 ≤ sgn c) : ∀ x ∈ l, 0 ≤ x ∧ x ≤ 255 := by
  intro x hx
  have h1 := h x hx
  have h2 := sgn_back h1
  have h3 := sgn_lt x
  have : WS.getD (sgn x).toNat 0 ∈ WS := by
    have hl : (sgn x).toNat < WS.length := by rw [WS_length]; omega
    rw [List.getD_eq_getElem?_getD, List.getElem?_eq_getElem hl]
    exact List.getElem_mem hl
  rw [h2] at this
  exact WS_bd x this
theorem bytesL_decV (s : ByteArray) : bytesL (decV s) = (unp (bytesB (bytesL s))).1 :=
  bytesL_strOfNums _ (signs_bd (unp_back _ (bytesB_bit _)).1)
theorem decV_size (s : ByteArray) (h : s.size ≤ 16) : (decV s).size ≤ 26 := by
  rw [← bytesL_length, bytesL_decV]
  have h1 := unp_left_len (bytesB (bytesL s)) (bytesB_bit _)
  have h2 := packB_len_ge (unp (bytesB (bytesL s))).1
  rw [bytesB_length, bytesL_length] at h1
  omega
theorem unpV_dec (s : ByteArray) (h : s.size ≤ 16) : unpV s = if packV (decV s) = s then (decV s, true) else (⟨#[]⟩, false) := by
  have hbd := bytesL_bd s
  by_cases hp : packV (decV s) = s
  · rw [if_pos hp]
    cases hw : wOk (bytesL (decV s)) with
    | true =>
      have h2 := wOk_signs hw
      have e0 : packV (decV s) = strOfNums (packL (bytesL (decV s))) := by unfold packV; rw [if_pos hw]
      have e : bytesL s = packL (bytesL (decV s)) := (congrArg bytesL (hp.symm.trans e0)).trans (bytesL_strOfNums _ (packL_bd _))
      unfold unpV
      rw [e, unpL_pack _ h2.1 h2.2]
      show (strOfNums (bytesL (decV s)), true) = (decV s, true)
      rw [strOfNums_bytesL]
    | false =>
      exfalso
      have hs : s = ⟨#[]⟩ := by rw [← hp]; unfold packV; rw [if_neg (by rw [hw]; decide)]
      have : wOk (bytesL (decV s)) = true := by
        rw [bytesL_decV, hs]
        rfl
      rw [this] at hw
      exact absurd hw (by decide)
  · rw [if_neg hp]
    unfold unpV
    match hu : unpL (bytesL s) with
    | none => rfl
    | some o =>
      exfalso
      apply hp
      obtain ⟨h1, h2, h3⟩ := unpL_strict _ _ hbd hu
      have ho : o = (unp (bytesB (bytesL s))).1 := by
        unfold unpL at hu
        rw [if_neg (by rw [bytesL_length]; omega)] at hu
        split at hu
        · injection hu with hu; exact hu.symm
        · cases hu
      have e : bytesL (decV s) = o := by rw [bytesL_decV, ho]
      have hw : wOk (bytesL (decV s)) = true := by
        rw [e]
        unfold wOk
        rw [show (o.all fun c => decide (0 ≤ sgn c)) = true by rw [List.all_eq_true]; intro x hx; simpa using h1 x hx]
        simpa using h2
      unfold packV
      rw [if_pos hw, e, h3, strOfNums_bytesL]
theorem unpV_big (s : ByteArray) (h : ¬ s.size ≤ 16) : unpV s = (⟨#[]⟩, false) := by
  unfold unpV unpL
  rw [if_pos (by rw [bytesL_length]; omega)]
end Go.Proofs.Ytdnajdobmlgmiaa

namespace Go.Proofs.Ytdnajdobmlgmiaa
open Go.RowKit
set_option linter.unusedVariables false

theorem numS_small (n head : Int) (h : n < 127) : numS n 7 head = strOfNums [head * 128 + n] := by
  unfold numS numL
  rw [pw7, if_pos (by omega)]
theorem size_strOfNums (l : List Int) (h : ∀ x ∈ l, 0 ≤ x ∧ x ≤ 255) : (strOfNums l).size = l.length := by
  rw [← bytesL_length, bytesL_strOfNums l h]
end Go.Proofs.Ytdnajdobmlgmiaa

namespace Go.Proofs.Ytdnajdobmlgmiaa
open Go.RowKit
set_option linter.unusedVariables false

end Go.Proofs.Ytdnajdobmlgmiaa

namespace Go.Proofs.Ytdnajdobmlgmiaa
end Go.Proofs.Ytdnajdobmlgmiaa
