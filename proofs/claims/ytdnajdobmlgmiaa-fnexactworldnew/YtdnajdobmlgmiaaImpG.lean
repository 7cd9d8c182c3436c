import Derived.RangeFuncNested
import Derived.RangeFuncBound
import Derived.RangeFuncCalls
import Derived.RangeFuncLeaves
import Derived.RangeFuncBox
import Derived.Shelf.Abstract
import Derived.Shelf.RegionOpen
import Derived.WalkKit
import Derived.OwnWalkIn
import Derived.TacticsInMore
import Derived.LoopNIn
import Derived.LoopIn
import Derived.Maps.AppendAt
import Derived.Test.YtdnajdobmlgmiaaBG
namespace Go.Proofs.Ytdnajdobmlgmiaa
open Go.RowKit Go.Shelf
set_option linter.unusedVariables false
attribute [local go_sem] Oper.semAt_some

/-- A bit. -/
abbrev Bit := { x : Int // x = 0 ∨ x = 1 }
/-- The bits of a number, the highest first. -/
def bitsQ : Nat → Int → List Bit
  | 0, _ => []
  | m + 1, n => bitsQ m (n / 2) ++ [⟨n % 2, by omega⟩]
theorem bitsQ_length (m : Nat) (n : Int) : (bitsQ m n).length = m := by
  induction m generalizing n with
  | zero => rfl
  | succ m ih => simp [bitsQ, ih]
theorem bitsQ_map (m : Nat) (n : Int) : (bitsQ m n).map (·.1) = bitsL m n := by
  induction m generalizing n with
  | zero => rfl
  | succ m ih => simp [bitsQ, bitsL, ih]
theorem bitsQ_at (m j : Nat) (n : Int) (h : j < m) : ((bitsQ m n)[j]'(by rw [bitsQ_length]; exact h)).1 = n / 2 ^ (m - 1 - j) % 2 := by
  induction m generalizing n j with
  | zero => omega
  | succ m ih =>
    simp only [bitsQ]
    by_cases hj : j < m
    · rw [List.getElem_append_left (by rw [bitsQ_length]; exact hj), ih j (n / 2) hj, Int.ediv_ediv_of_nonneg (by omega), show m + 1 - 1 - j = m - 1 - j + 1 by omega, Int.pow_succ, Int.mul_comm]
    · have : j = m := by omega
      subst this
      rw [List.getElem_append_right (by rw [bitsQ_length]; omega)]
      simp [bitsQ_length]
/-- The bits of codes. -/
def codesQ (cs : List (Int × Int)) : List Bit := cs.flatMap fun c => bitsQ c.2.toNat c.1
theorem codesQ_snoc (cs : List (Int × Int)) (c : Int × Int) : codesQ (cs ++ [c]) = codesQ cs ++ bitsQ c.2.toNat c.1 := by simp [codesQ]
theorem codesQ_part (cs : List (Int × Int)) (k : Nat) (h : k < cs.length) : codesQ cs = codesQ (cs.take k) ++ (bitsQ cs[k].2.toNat cs[k].1 ++ codesQ (cs.drop (k + 1))) := by
  have e : cs = cs.take k ++ (cs[k] :: cs.drop (k + 1)) := by rw [← List.drop_eq_getElem_cons h, List.take_append_drop]
  have e2 : codesQ cs = codesQ (cs.take k ++ (cs[k] :: cs.drop (k + 1))) := congrArg codesQ e
  rw [e2]
  unfold codesQ
  rw [List.flatMap_append, List.flatMap_cons]

/-- What a round keeps: all but two boxes, and rows of bytes. -/
structure KeepC (B1 B2 : Nat) (W W' : World) : Prop where
  size : W.heap.size ≤ W'.heap.size
  same : ∀ b cs t, W.heap[b]? = some (.cells cs t (0, 0)) → b ≠ B1 → b ≠ B2 → t ≠ 5 → W'.heap[b]? = some (.cells cs t (0, 0))
theorem KeepC.trans {B1 B2 : Nat} {A B C : World} (h : KeepC B1 B2 A B) (k : KeepC B1 B2 B C) : KeepC B1 B2 A C :=
  ⟨Nat.le_trans h.size k.size, fun b cs t hb h1 h2 h3 => k.same b cs t (h.same b cs t hb h1 h2 h3) h1 h2 h3⟩
theorem hid_mk {p : Prop} (h : p) : Hid p := h
theorem val_intG {k : IntKind} {a b : Int} (h : a = b) : Value.int k a = .int k b := by rw [h]
theorem and_one_all : ∀ n : Fin 256, ∀ b : Fin 8, bits .and .i64 ((n.val : Int) / 2 ^ b.val) 1 = (n.val : Int) / 2 ^ b.val % 2 := by decide +kernel

theorem and_one (x : Int) (d : Nat) (h0 : 0 ≤ x) (h1 : x ≤ 255) (hd : d ≤ 7) : bits .and .i64 (x / 2 ^ d) 1 = x / 2 ^ d % 2 := by
  obtain ⟨n, rfl⟩ := Int.eq_ofNat_of_zero_le h0
  exact and_one_all ⟨n, by omega⟩ ⟨d, by omega⟩

end Go.Proofs.Ytdnajdobmlgmiaa
