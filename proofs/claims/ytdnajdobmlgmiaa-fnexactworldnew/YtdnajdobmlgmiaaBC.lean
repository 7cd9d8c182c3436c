import Derived.Test.YtdnajdobmlgmiaaBA
import Derived.Test.YtdnajdobmlgmiaaBD
namespace Go.Proofs.Ytdnajdobmlgmiaa
open Go.RowKit
set_option linter.unusedVariables false
theorem infoI : (Try.prog.info? 3).map (fun i => (i.zero, i.size, i.bytes)) = some (some (.int .i64 0), 1, 8) := by kernel_rfl

theorem cell_list (w : World) (xs : List Value) (e : TypeId) : ∀ j u, xs[j]? = some u → (w.alloc (.cells xs.toArray e)).cell? ((⟨w.heap.size, 0, none⟩ : Addr).add j) = some u := by
  intro j u hj
  obtain ⟨hj', rfl⟩ := List.getElem?_eq_some_iff.1 hj
  rw [Addr.add_lit]
  simp [hj']
theorem own_zero (w : World) (e : TypeId) : (w.alloc (.cells #[] e)).ownsRow w.heap.size e 1 (.slice (some ⟨w.heap.size, 0, none⟩) 0 0) 0 [] :=
  ⟨rfl, .inr ⟨w.heap.size, 0, #[], rfl, Nat.le_refl _, by show (w.heap.push _)[w.heap.size]? = _; simp, Nat.le_refl _, by decide, rfl, rfl⟩⟩
theorem own_form {w : World} {base : Nat} {e : TypeId} {size : Nat} {v : Value} {n : Nat} {xs : List Value} (h : w.ownsRow base e size v n xs) : ∃ a c, v = .slice a n c := by
  rcases h.2 with ⟨rfl, rfl⟩ | ⟨g, cap, cur, rfl, _⟩
  · exact ⟨_, _, rfl⟩
  · exact ⟨_, _, rfl⟩
theorem own_addr {w : World} {base : Nat} {e : TypeId} {size : Nat} {a : Option Addr} {c n : Nat} {xs : List Value} (h : w.ownsRow base e size (.slice a n c) n xs) (hn : 0 < n) : ∃ g, a = some ⟨g, 0, none⟩ ∧ n ≤ c ∧ c ≤ maxLen := by
  rcases h.2 with ⟨hv, rfl⟩ | ⟨g, cap, cur, hv, _, _, h1, h2, _⟩
  · omega
  · injection hv with h3 _ h4
    subst h4
    exact ⟨g, h3, h1, h2⟩
theorem own_below {w w' : World} {base : Nat} {e : TypeId} {size : Nat} {v : Value} {n : Nat} {xs : List Value} (h : w.ownsRow base e size v n xs) (hb : Below w.heap.size w w') : w'.ownsRow base e size v n xs := by
  refine ⟨h.1, ?_⟩
  rcases h.2 with h0 | ⟨g, cap, cur, h1, h2, h3, h4⟩
  · exact .inl h0
  · refine .inr ⟨g, cap, cur, h1, h2, ?_, h4⟩
    rw [hb.block g ?_]
    · exact h3
    · rcases Nat.lt_or_ge g w.heap.size with h | h
      · exact h
      · rw [Array.getElem?_eq_none h] at h3; simp at h3
theorem val_str {a b : ByteArray} (h : a = b) : Value.string a = .string b := by rw [h]
def lenV : Value → Nat
  | .slice _ n _ => n
  | _ => 0

end Go.Proofs.Ytdnajdobmlgmiaa

namespace Go.Proofs.Ytdnajdobmlgmiaa
open Go.RowKit
set_option linter.unusedVariables false

theorem ret_sb {a b : ByteArray} {c d : Bool} (h : a = b) (h' : c = d) : Ending.returned (.tuple #[.string a, .bool c]) = .returned (.tuple #[.string b, .bool d]) := by rw [h, h']
theorem val_int {a b : Int} (h : a = b) : Value.int .i64 a = .int .i64 b := by rw [h]

theorem own_cells {w : World} {base : Nat} {e : TypeId} {g T c : Nat} {bs : List Int} (hown : w.ownsRow base e 1 (.slice (some ⟨g, 0, none⟩) T c) T (bs.map (Value.int .i64))) (hbl : bs.length = T) (o m : Nat) (h : o + m ≤ T) :
    ((bs.drop o).take m).length = m ∧ ∀ i, i < ((bs.drop o).take m).length → w.cell? ⟨g, o + i, none⟩ = some (.int .i64 (((bs.drop o).take m).getD i 0)) := by
  have hln : ((bs.drop o).take m).length = m := by rw [List.length_take, List.length_drop, hbl]; omega
  refine ⟨hln, ?_⟩
  intro i hi
  rw [hln] at hi
  have hi2 : o + i < bs.length := by rw [hbl]; omega
  have := hown.cells (g := g) rfl (o + i) (.int .i64 bs[o + i]) (by simp [hi2])
  rw [Addr.add_lit, show (0 : Nat) + (o + i) = o + i by omega] at this
  rw [this]
  have e : ((bs.drop o).take m).getD i 0 = bs[o + i] := by
    simp [List.getD, hi, List.getElem?_drop, hi2]
  rw [e]
theorem numB_seven (l : List Int) (h : 7 ≤ l.length) (hb : ∀ b ∈ l, b = 0 ∨ b = 1) : 4 * numB (l.take 5) ≤ numB (l.take 7) ∧ numB (l.take 7) ≤ 127 := by
  match l, h with
  | a :: b :: c :: d :: e :: f :: g :: t, _ =>
    have ha := hb a (by simp)
    have hb' := hb b (by simp)
    have hc := hb c (by simp)
    have hd := hb d (by simp)
    have he := hb e (by simp)
    have hf := hb f (by simp)
    have hg := hb g (by simp)
    simp [numB]
    omega

theorem unp_step {bs outL : List Int} {o n : Nat} {k x : Int} (hun : unp bs = (outL ++ (unp (bs.drop o)).1, (unp (bs.drop o)).2)) (hst : stepU (bs.drop o) = some (k, n)) (hx : WS.getD k.toNat 0 = x) :
    unp bs = ((outL ++ [x]) ++ (unp (bs.drop (o + n))).1, (unp (bs.drop (o + n))).2) := by
  have h := unp_some hst
  rw [List.drop_drop, hx] at h
  have h1 : (unp (bs.drop o)).1 = x :: (unp (bs.drop (o + n))).1 := by rw [h]
  have h2 : (unp (bs.drop o)).2 = (unp (bs.drop (o + n))).2 := by rw [h]
  rw [hun, h1, h2, List.append_assoc]
  rfl
theorem unp_end {bs outL : List Int} {o : Nat} (hun : unp bs = (outL ++ (unp (bs.drop o)).1, (unp (bs.drop o)).2)) (hst : stepU (bs.drop o) = none) : unp bs = (outL, bs.drop o) := by
  rw [hun, unp_none hst]
  simp
theorem all_snoc {l : List Int} {k : Nat} {y : Int} (hk : k < l.length) (hy : l[k] = y) : (l.take (k + 1)).all (fun b => b == 1) = ((l.take k).all (fun b => b == 1) && (y == 1)) := by
  rw [List.take_succ_eq_append_getElem hk, List.all_append, hy]
  simp
theorem val_bool {a b : Bool} (h : a = b) : Value.bool a = .bool b := by rw [h]

end Go.Proofs.Ytdnajdobmlgmiaa

namespace Go.Proofs.Ytdnajdobmlgmiaa
open Go.RowKit
set_option linter.unusedVariables false

/-- Texts of numbers. -/
theorem wOk_signs {l : List Int} (h : wOk l = true) : (∀ c ∈ l, 0 ≤ sgn c) ∧ l.length ≤ 16 := by
  unfold wOk at h
  rw [Bool.and_eq_true, List.all_eq_true] at h
  exact ⟨fun c hc => by simpa using h.1 c hc, by simpa using h.2⟩
/-- What WordPack answers. -/
def packV (s : ByteArray) : ByteArray := if wOk (bytesL s) then strOfNums (packL (bytesL s)) else ⟨#[]⟩
/-- What WordUnpack answers. -/
def unpV (s : ByteArray) : ByteArray × Bool := match unpL (bytesL s) with
  | some o => (strOfNums o, true)
  | none => (⟨#[]⟩, false)
theorem packL_length (l : List Int) (h : l.length ≤ 16) : (packL l).length ≤ 14 := by
  unfold packL
  rw [chunkN_length]
  have h1 := (padB_length (packB l)).2.2
  have h2 := packB_length l
  omega
theorem packL_bd (l : List Int) : ∀ x ∈ packL l, 0 ≤ x ∧ x ≤ 255 := chunkN_bd _ (padB_bit _ (packB_bit l)) _

theorem size_zero {s : ByteArray} (h : s.size = 0) : s = ⟨#[]⟩ := by
  apply ByteArray.ext
  apply Array.eq_empty_of_size_eq_zero
  exact h

/-- A word in bytes, with how long it is. -/
def wrL (l : List Int) : List Int := if (packL l).length < l.length then (128 + (packL l).length : Int) :: packL l else (l.length : Int) :: l
/-- What WordWrite answers. -/
def wrV (s : ByteArray) : ByteArray := if wOk (bytesL s) then strOfNums (wrL (bytesL s)) else ⟨#[]⟩
theorem numS7 (n head : Int) (h0 : n < 127) : numS n 7 head = strOfNums [head * 128 + n] := by
  unfold numS
  unfold numL
  rw [if_pos (by rw [pw7]; omega), pw7]

theorem packV_size (s : ByteArray) : (packV s).size ≤ 14 := by
  unfold packV
  by_cases h : wOk (bytesL s) = true
  · rw [if_pos h, strOfNums_size]
    exact packL_length _ (wOk_signs h).2
  · rw [if_neg h]; decide

theorem wrV_size (s : ByteArray) : (wrV s).size ≤ 17 := by
  unfold wrV
  by_cases h : wOk (bytesL s) = true
  · rw [if_pos h, strOfNums_size]
    have h2 := (wOk_signs h).2
    have h1 := packL_length _ h2
    unfold wrL
    split
    · simp; omega
    · simp; omega
  · rw [if_neg h]; decide

end Go.Proofs.Ytdnajdobmlgmiaa

namespace Go.Proofs.Ytdnajdobmlgmiaa
open Go.RowKit
set_option linter.unusedVariables false

/-- The word at the beginning of bytes, and how many bytes it has. -/
def rdWL : List Int → Option (List Int × Int)
  | [] => none
  | a :: t => if 16 < a % 128 then none else if (t.length : Int) < a % 128 then none
    else if 128 ≤ a then (unpL (t.take (a % 128).toNat)).map (fun o => (o, 1 + a % 128))
    else if wOk (t.take (a % 128).toNat) then some (t.take (a % 128).toNat, 1 + a % 128) else none
theorem rdWL_cons (a : Int) (t : List Int) : rdWL (a :: t) = if 16 < a % 128 then none else if (t.length : Int) < a % 128 then none
    else if 128 ≤ a then (unpL (t.take (a % 128).toNat)).map (fun o => (o, 1 + a % 128))
    else if wOk (t.take (a % 128).toNat) then some (t.take (a % 128).toNat, 1 + a % 128) else none := rfl
/-- What WordRead answers. -/
def rdWV (s : ByteArray) : ByteArray × Int × Bool := match rdWL (bytesL s) with
  | some (o, u) => (strOfNums o, u, true)
  | none => (⟨#[]⟩, 0, false)
theorem rd_big (a : Int) (t : List Int) (ht : ∀ x ∈ t, 0 ≤ x ∧ x ≤ 255) (h : ¬ a % 128 < 127) : (rd 128 (a :: t)).2.2 = false ∨ 16 < (rd 128 (a :: t)).1 := by
  match t, ht with
  | [], _ => rw [rd1, if_neg (by omega)]; exact .inl rfl
  | [b], ht =>
    have hb := ht b (by simp)
    rw [rd2, if_neg (by omega)]
    by_cases h1 : b < 128
    · rw [if_pos h1]; exact .inr (by show (16 : Int) < 128 - 1 + b; omega)
    · rw [if_neg h1]; exact .inl rfl
  | b :: c :: u, ht =>
    have hb := ht b (by simp)
    have hc := ht c (by simp)
    rw [rd3, if_neg (by omega)]
    by_cases h1 : b < 128
    · rw [if_pos h1]; exact .inr (by show (16 : Int) < 128 - 1 + b; omega)
    · rw [if_neg h1]
      by_cases h2 : 128 ≤ c ∨ c = 0 ∨ 9999 < 128 - 1 + (b - 128) + 128 * c
      · rw [if_pos h2]; exact .inl rfl
      · rw [if_neg h2]; exact .inr (by show (16 : Int) < 128 - 1 + (b - 128) + 128 * c; omega)
theorem ret_sib {a b : ByteArray} {m n : Int} {c d : Bool} (h : a = b) (h1 : m = n) (h' : c = d) : Ending.returned (.tuple #[.string a, .int .i64 m, .bool c]) = .returned (.tuple #[.string b, .int .i64 n, .bool d]) := by rw [h, h1, h']

end Go.Proofs.Ytdnajdobmlgmiaa

namespace Go.Proofs.Ytdnajdobmlgmiaa
open Go.RowKit
set_option linter.unusedVariables false
theorem bt {w a b : World} (h1 : Below w.heap.size w a) (h2 : Below a.heap.size a b) : Below w.heap.size w b := h1.trans (h2.mono h1.size)

theorem wOk_mk {l : List Int} (h : allS l) (hl : l.length ≤ 16) : wOk l = true := by
  unfold wOk
  rw [Bool.and_eq_true, List.all_eq_true]
  exact ⟨fun c hc => by simpa using h c hc, by simpa using hl⟩
theorem wOk_allS {l : List Int} (h : wOk l = true) : allS l ∧ l.length ≤ 16 := wOk_signs h
theorem packV_ok {s : ByteArray} (h : wOk (bytesL s) = true) : packV s = strOfNums (packL (bytesL s)) := by unfold packV; rw [if_pos h]
theorem packV_bad {s : ByteArray} (h : wOk (bytesL s) = false) : packV s = ⟨#[]⟩ := by unfold packV; rw [if_neg (by simp [h])]
theorem bytesL_packV {s : ByteArray} (h : wOk (bytesL s) = true) : bytesL (packV s) = packL (bytesL s) := by rw [packV_ok h, bytesL_strOfNums _ (packL_bd _)]
theorem bytesL_none : bytesL ⟨#[]⟩ = [] := rfl
theorem unpV_some {b : ByteArray} {o : List Int} (h : unpL (bytesL b) = some o) : unpV b = (strOfNums o, true) := by unfold unpV; rw [h]
theorem unpV_none {b : ByteArray} (h : unpL (bytesL b) = none) : unpV b = (⟨#[]⟩, false) := by unfold unpV; rw [h]
theorem unpV_pack {s : ByteArray} (h : wOk (bytesL s) = true) : unpV (packV s) = (s, true) := by
  have h2 := wOk_allS h
  rw [unpV_some (o := bytesL s) (by rw [bytesL_packV h]; exact unpL_pack _ h2.1 h2.2), strOfNums_bytesL]
theorem allS_bd {l : List Int} (h : allS l) : ∀ x ∈ l, 0 ≤ x ∧ x ≤ 255 := by
  intro x hx
  have h1 := h x hx
  have h2 := sgn_back h1
  have h3 := sgn_lt x
  have h4 : (sgn x).toNat < WS.length := by rw [WS_length]; omega
  rw [← h2]
  refine WS_bd _ ?_
  simp [List.getD, h4]
theorem unpV_strict {b x : ByteArray} (h : unpV b = (x, true)) : wOk (bytesL x) = true ∧ packV x = b := by
  unfold unpV at h
  match hu : unpL (bytesL b) with
  | none => rw [hu] at h; simp at h
  | some o =>
    rw [hu] at h
    simp at h
    obtain ⟨h1, h2, h3⟩ := unpL_strict (bytesL b) o (bytesL_bd b) hu
    have ho : bytesL x = o := by rw [← h, bytesL_strOfNums _ (allS_bd h1)]
    have hok : wOk (bytesL x) = true := by rw [ho]; exact wOk_mk h1 h2
    refine ⟨hok, ?_⟩
    rw [packV_ok hok, ho, h3, strOfNums_bytesL]
theorem unpV_two (b : ByteArray) : unpV b = (⟨#[]⟩, false) ∨ ∃ x, unpV b = (x, true) := by
  unfold unpV
  match unpL (bytesL b) with
  | none => exact .inl rfl
  | some o => exact .inr ⟨_, rfl⟩

/-! Words in bytes, with how long they are. -/
theorem wrV_ok {s : ByteArray} (h : wOk (bytesL s) = true) : wrV s = strOfNums (wrL (bytesL s)) := by unfold wrV; rw [if_pos h]
theorem wrV_bad {s : ByteArray} (h : wOk (bytesL s) = false) : wrV s = ⟨#[]⟩ := by unfold wrV; rw [if_neg (by simp [h])]
theorem wrL_bd {l : List Int} (h : ∀ x ∈ l, 0 ≤ x ∧ x ≤ 255) (hl : l.length ≤ 16) : ∀ x ∈ wrL l, 0 ≤ x ∧ x ≤ 255 := by
  have hp := packL_length l hl
  intro x hx
  unfold wrL at hx
  split at hx
  · rcases List.mem_cons.1 hx with rfl | hx
    · omega
    · exact packL_bd l x hx
  · rcases List.mem_cons.1 hx with rfl | hx
    · omega
    · exact h x hx
theorem bytesL_wrV {s : ByteArray} (h : wOk (bytesL s) = true) : bytesL (wrV s) = wrL (bytesL s) := by
  rw [wrV_ok h, bytesL_strOfNums _ (wrL_bd (bytesL_bd s) (wOk_allS h).2)]
theorem wrL_len (l : List Int) : (wrL l).length = 1 + min (packL l).length l.length := by
  unfold wrL
  split
  · rw [List.length_cons]; omega
  · rw [List.length_cons]; omega
/-- Packed or not a word is read, whatever follows. -/
theorem rdWL_plain (l t : List Int) (h : allS l) (hl : l.length ≤ 16) : rdWL ((l.length : Int) :: (l ++ t)) = some (l, 1 + (l.length : Int)) := by
  have e : ((l.length : Int) % 128).toNat = l.length := by omega
  have e2 : (l.length : Int) % 128 = l.length := by omega
  rw [rdWL_cons, if_neg (by omega), if_neg (by rw [List.length_append]; omega), if_neg (by omega), e, List.take_left, if_pos (wOk_mk h hl), e2]
theorem rdWL_pack (l t : List Int) (h : allS l) (hl : l.length ≤ 16) : rdWL ((128 + (packL l).length : Int) :: (packL l ++ t)) = some (l, 1 + ((packL l).length : Int)) := by
  have hp := packL_length l hl
  have e : ((128 + (packL l).length : Int) % 128).toNat = (packL l).length := by omega
  have e2 : (128 + (packL l).length : Int) % 128 = (packL l).length := by omega
  rw [rdWL_cons, if_neg (by omega), if_neg (by rw [List.length_append]; omega), if_pos (by omega), e, List.take_left, unpL_pack l h hl, e2]
  rfl
theorem rdWL_write (l t : List Int) (h : allS l) (hl : l.length ≤ 16) : rdWL (wrL l ++ t) = some (l, ((wrL l).length : Int)) := by
  unfold wrL
  split
  · rw [List.cons_append, rdWL_pack l t h hl, List.length_cons]
    congr 2
    omega
  · rw [List.cons_append, rdWL_plain l t h hl, List.length_cons]
    congr 2
    omega
theorem rdWV_some {b : ByteArray} {o : List Int} {u : Int} (h : rdWL (bytesL b) = some (o, u)) : rdWV b = (strOfNums o, u, true) := by unfold rdWV; rw [h]
theorem rdWV_none {b : ByteArray} (h : rdWL (bytesL b) = none) : rdWV b = (⟨#[]⟩, 0, false) := by unfold rdWV; rw [h]
theorem rdWV_write {s : ByteArray} (h : wOk (bytesL s) = true) (t : ByteArray) : rdWV (wrV s ++ t) = (s, ((wrV s).size : Int), true) := by
  have h2 := wOk_allS h
  rw [rdWV_some (o := bytesL s) (u := ((wrL (bytesL s)).length : Int)) (by rw [bytesL_append, bytesL_wrV h]; exact rdWL_write _ _ h2.1 h2.2), strOfNums_bytesL, wrV_ok h, strOfNums_size]
theorem append_none (s : ByteArray) : s ++ (⟨#[]⟩ : ByteArray) = s := by apply ByteArray.ext; simp
theorem rdWV_back {s : ByteArray} (h : wOk (bytesL s) = true) : rdWV (wrV s) = (s, ((wrV s).size : Int), true) := by
  have := rdWV_write h ⟨#[]⟩
  rwa [append_none] at this
theorem rdWV_two (b : ByteArray) : rdWV b = (⟨#[]⟩, 0, false) ∨ ∃ x u, rdWV b = (x, u, true) := by
  unfold rdWV
  match rdWL (bytesL b) with
  | none => exact .inl rfl
  | some (o, u) => exact .inr ⟨_, _, rfl⟩
/-- What is read is a word. -/
theorem rdWL_strict {b l : List Int} {u : Int} (hb : ∀ x ∈ b, 0 ≤ x ∧ x ≤ 255) (h : rdWL b = some (l, u)) : allS l ∧ l.length ≤ 16 ∧ 1 ≤ u ∧ u ≤ b.length ∧ ((wrL l).length : Int) ≤ u := by
  match b, hb with
  | [], _ => simp [rdWL] at h
  | a :: t, hb =>
    have ha := hb a (by simp)
    rw [rdWL_cons] at h
    by_cases h16 : 16 < a % 128
    · rw [if_pos h16] at h; simp at h
    · rw [if_neg h16] at h
      by_cases ht : (t.length : Int) < a % 128
      · rw [if_pos ht] at h; simp at h
      · rw [if_neg ht] at h
        have hlen : (t.take (a % 128).toNat).length = (a % 128).toNat := by rw [List.length_take]; omega
        by_cases h128 : 128 ≤ a
        · rw [if_pos h128] at h
          match hu : unpL (t.take (a % 128).toNat) with
          | none => rw [hu] at h; simp at h
          | some o =>
            rw [hu] at h
            simp at h
            obtain ⟨rfl, rfl⟩ := h
            obtain ⟨h1, h2, h3⟩ := unpL_strict _ o (fun x hx => hb x (by simp [List.mem_of_mem_take hx])) hu
            refine ⟨h1, h2, by omega, by rw [List.length_cons]; omega, ?_⟩
            rw [wrL_len, h3, hlen]
            omega
        · rw [if_neg h128] at h
          by_cases hw : wOk (t.take (a % 128).toNat) = true
          · rw [if_pos hw] at h
            simp at h
            obtain ⟨rfl, rfl⟩ := h
            have h2 := wOk_allS hw
            refine ⟨h2.1, h2.2, by omega, by rw [List.length_cons]; omega, ?_⟩
            rw [wrL_len, hlen]
            omega
          · rw [if_neg hw] at h; simp at h
theorem rdWV_strict {b x : ByteArray} {u : Int} (h : rdWV b = (x, u, true)) : wOk (bytesL x) = true ∧ 1 ≤ u ∧ u ≤ (b.size : Int) ∧ ((wrV x).size : Int) ≤ u := by
  unfold rdWV at h
  match hu : rdWL (bytesL b) with
  | none => rw [hu] at h; simp at h
  | some (o, v) =>
    rw [hu] at h
    simp at h
    obtain ⟨h0, rfl⟩ := h
    obtain ⟨h1, h2, h3, h4, h5⟩ := rdWL_strict (bytesL_bd b) hu
    have ho : bytesL x = o := by rw [← h0, bytesL_strOfNums _ (allS_bd h1)]
    have hok : wOk (bytesL x) = true := by rw [ho]; exact wOk_mk h1 h2
    rw [bytesL_length] at h4
    refine ⟨hok, h3, h4, ?_⟩
    rw [wrV_ok hok, strOfNums_size, ho]
    exact h5
/-- A word of which bytes lack is none. -/
theorem rdWL_lack (l : List Int) (h : allS l) (hl : l.length ≤ 16) (k : Nat) (hk : k < (wrL l).length) : rdWL ((wrL l).take k) = none := by
  match k with
  | 0 => rfl
  | k + 1 =>
    have hp := packL_length l hl
    unfold wrL at hk ⊢
    split at hk
    · rename_i hc
      rw [if_pos hc, List.take_succ_cons, rdWL_cons, if_neg (by omega), if_pos]
      rw [List.length_cons] at hk
      rw [List.length_take]
      omega
    · rename_i hc
      rw [if_neg hc, List.take_succ_cons, rdWL_cons, if_neg (by omega), if_pos]
      rw [List.length_cons] at hk
      rw [List.length_take]
      omega
theorem rdWV_lack {s : ByteArray} (h : wOk (bytesL s) = true) (k : Nat) (hk : k < (wrV s).size) : rdWV ((wrV s).extract 0 k) = (⟨#[]⟩, 0, false) := by
  have h2 := wOk_allS h
  apply rdWV_none
  rw [bytesL_extract, List.drop_zero, bytesL_wrV h]
  refine rdWL_lack _ h2.1 h2.2 k ?_
  rw [← bytesL_wrV h, bytesL_length]
  exact hk
theorem wrV_pos {s : ByteArray} (h : wOk (bytesL s) = true) : 0 < (wrV s).size := by
  rw [wrV_ok h, strOfNums_size, wrL_len]; omega
end Go.Proofs.Ytdnajdobmlgmiaa
