import Derived.Test.YtbhoafiolalgaaaGreatHL0
namespace Go.Proofs.YtbhoafiolalgaaaGreat
open Go.RowKit
set_option linter.unusedVariables false

/-- A table that may have nothing keeps nothing. -/
theorem wrH_small {h : List Fd} (hh : hOk h = true) : (wrH [] 0 h).1 = [] := by
  have h2 := (wrH_len (fs := []) (max := 0) (by decide) hh).1
  unfold tOk at h2
  rw [Bool.and_eq_true, Bool.and_eq_true, decide_eq_true_eq] at h2
  have h3 := fSum_four (wrH [] 0 h).1
  have : (wrH [] 0 h).1.length = 0 := by omega
  exact List.eq_nil_of_length_eq_zero this
/-- What is fixed is one byte. -/
theorem find_fixed (fs : List Fd) (k : Nat) (h : k < 6) : findV fs (fixedL[k]'h) = (k + 1, true) := by
  unfold findV
  rw [fixed_fl fs k h, if_neg (by omega)]
theorem wrH_fixed (fs : List Fd) (max : Int) (k : Nat) (h : k < 6) : wrH fs max [fixedL[k]'h] = (fs, strOfNums [128 + ((k : Int) + 1)]) := by
  have e : wrF fs max (fixedL[k]'h) = (fs, strOfNums [128 + ((k : Int) + 1)]) := by
    unfold wrF
    rw [fixed_q k h, find_fixed fs k h]
    dsimp only
    rw [if_neg (by decide), if_pos rfl, show (((k + 1 : Nat) : Int)) = (k : Int) + 1 by omega, numS7 _ _ (by omega)]
    rfl
  unfold wrH
  rw [e]
  unfold wrH
  dsimp only
  rw [Prod.mk.injEq]
  refine ⟨rfl, ?_⟩
  apply ByteArray.ext
  simp
theorem hOk_fixed (k : Nat) (h : k < 6) : hOk [fixedL[k]'h] = true := hOk_mk (fun f hf => by rw [List.mem_singleton] at hf; subst hf; exact fixed_ok k h) (by simp)
/-- Written again a head whose fields are all found is a byte each. -/
theorem wrF_found {fs : List Fd} {max : Int} {f : Fd} (ht : tOk fs max = true) (hq : f.q = false) (hf : (findV fs f).2 = true) : (wrF fs max f).1 = fs ∧ (wrF fs max f).2.size = 1 := by
  unfold wrF
  rw [if_neg (by rw [hq]; decide), if_pos hf]
  refine ⟨rfl, ?_⟩
  obtain ⟨⟨p, b⟩, hfd⟩ : ∃ r, findV fs f = r := ⟨_, rfl⟩
  have h1 := pl_le hfd
  have h2 := tOk_len ht
  rw [hfd]
  dsimp only
  rw [numS7 _ _ (by omega), strOfNums_size]
  rfl
theorem wrH_again {fs : List Fd} {max : Int} (ht : tOk fs max = true) (h : List Fd) (hf : ∀ f ∈ h, f.q = false ∧ (findV fs f).2 = true) : (wrH fs max h).1 = fs ∧ (wrH fs max h).2.size = h.length := by
  induction h with
  | nil => exact ⟨rfl, rfl⟩
  | cons f t ih =>
    have h1 := hf f (by simp)
    obtain ⟨e1, e2⟩ := wrF_found ht h1.1 h1.2
    obtain ⟨i1, i2⟩ := ih (fun x hx => hf x (by simp [hx]))
    unfold wrH
    rw [e1, ByteArray.size_append, e2, i1, i2]
    refine ⟨rfl, ?_⟩
    simp only [List.length_cons]
    omega
/-- What no table may keep none keeps. -/
def nevF (f : Fd) : Fd := ⟨f.n, f.v, true⟩
theorem wrH_never (fs : List Fd) (max : Int) (h : List Fd) (hf : ∀ f ∈ h, f.q = true) : (wrH fs max h).1 = fs := by
  induction h generalizing fs with
  | nil => rfl
  | cons f t ih =>
    have e : (wrF fs max f).1 = fs := by unfold wrF; rw [if_pos (hf f (by simp))]
    unfold wrH
    rw [e]
    exact ih fs (fun x hx => hf x (by simp [hx]))
theorem fOk_nev {f : Fd} (h : fOk f = true) : fOk (nevF f) = true := h
theorem hOk_nev {h : List Fd} (hh : hOk h = true) : hOk (h.map nevF) = true := by
  obtain ⟨h1, h2⟩ := hOk_parts hh
  refine hOk_mk ?_ (by rw [List.length_map]; exact h2)
  intro f hf
  obtain ⟨x, hx, rfl⟩ := List.mem_map.1 hf
  exact fOk_nev (h1 x hx)
theorem nev_q (h : List Fd) : ∀ f ∈ h.map nevF, f.q = true := by
  intro f hf
  obtain ⟨x, hx, rfl⟩ := List.mem_map.1 hf
  rfl
/-- A head in parts. -/
theorem hOk_take {h : List Fd} (hh : hOk h = true) (k : Nat) : hOk (h.take k) = true := by
  obtain ⟨h1, h2⟩ := hOk_parts hh
  exact hOk_mk (fun f hf => h1 f (List.mem_of_mem_take hf)) (by rw [List.length_take]; omega)
theorem hOk_drop {h : List Fd} (hh : hOk h = true) (k : Nat) : hOk (h.drop k) = true := by
  obtain ⟨h1, h2⟩ := hOk_parts hh
  exact hOk_mk (fun f hf => h1 f (List.mem_of_mem_drop hf)) (by rw [List.length_drop]; omega)
theorem wrH_cut (fs : List Fd) (max : Int) (h : List Fd) (k : Nat) : wrH fs max h = ((wrH (wrH fs max (h.take k)).1 max (h.drop k)).1, (wrH fs max (h.take k)).2 ++ (wrH (wrH fs max (h.take k)).1 max (h.drop k)).2) := by
  have := wrH_append (h.take k) fs max (h.drop k)
  rwa [List.take_append_drop] at this
/-- What begins no field is none. -/
theorem rdH_form {fs : List Fd} {max : Int} {r : Nat} {b : List Int} (h0 : b ≠ []) (h : formL b = none) : rdH (r + 1) fs max b = none := by
  unfold rdH
  rw [if_neg h0, h]
  rfl
theorem rdH_step {fs : List Fd} {max : Int} {r : Nat} {b : List Int} {m : Fm} {k : Nat} (h0 : b ≠ []) (h : formL b = some (m, k)) (hs : stepL fs max m = none) : rdH (r + 1) fs max b = none := by
  unfold rdH
  rw [if_neg h0, h]
  show (stepL fs max m).bind _ = none
  rw [hs]
  rfl
theorem hRd_begin (fs : List Fd) (max : Int) (c : Int) (s : ByteArray) (h0 : 0 ≤ c) (h1 : c < 16 ∨ (32 ≤ c ∧ c < 64)) : hRd fs max (strOfNums [c] ++ s) = (([], 0), [], false) := by
  apply hRd_none
  rw [bytesL_append, bytesL_strOfNums _ (by intro x hx; rw [List.mem_singleton] at hx; omega)]
  refine rdH_form (by simp) ?_
  unfold formL
  rw [List.singleton_append, List.headD_cons, if_neg (by omega), if_neg (by omega), if_neg (by omega)]
theorem hRd_place (fs : List Fd) (max : Int) (p : Int) (h0 : 0 ≤ p) (h1 : p < 127) (hp : p = 0 ∨ 6 + fs.length < p) : hRd fs max (strOfNums [128 + p]) = (([], 0), [], false) := by
  apply hRd_none
  rw [bytesL_strOfNums _ (by intro x hx; rw [List.mem_singleton] at hx; omega)]
  have e : rd 128 [128 + p] = (p, 1, true) := by
    have hm : (128 + p) % 128 = p := by omega
    rw [rd_first 128 (128 + p) [] (by omega), hm]
  refine rdH_step (m := ⟨0, ⟨p, [], []⟩⟩) (k := 1) (by simp) ?_ ?_
  · unfold formL
    rw [List.headD_cons, if_pos (by omega), e]
    rfl
  · unfold stepL
    rw [if_pos rfl]
    have : (atV fs p).2 = false := by
      unfold atV
      rw [if_neg (by omega)]
    dsimp only
    rw [this]
    rfl
end Go.Proofs.YtbhoafiolalgaaaGreat
