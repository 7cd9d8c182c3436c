import Derived.Test.YtdnajdobmlgmiaaHR2
import Derived.Deep.AppendLies
namespace Go.Proofs.Ytdnajdobmlgmiaa
open Go.RowKit
set_option linter.unusedVariables false

/-- What reading answers: a table, fields, and whether it is so; both can be read. -/
def HrAns (w : World) (r : (List Fd × Int) × List Fd × Bool) (e : Ending) (w' : World) : Prop := ∃ a n c a2 n2 c2, e = .returned (.tuple #[.agg #[.slice a n c, .int .i64 r.1.2], .slice a2 n2 c2, .bool r.2.2]) ∧ Fs w' a n c r.1.1 ∧ Fs w' a2 n2 c2 r.2.1 ∧ Below w.heap.size w w'
theorem Fs_nil2 (w : World) (g o : Nat) : Fs w (some ⟨g, o, none⟩) 0 0 [] := ⟨rfl, Nat.le_refl _, by unfold maxLen; omega, (fun g o e j u hu => by simp [cellsF] at hu), (fun h => by omega), .inr ⟨_, _, rfl⟩⟩
def ansOf (max : Int) : Option (List Fd × List Fd) → (List Fd × Int) × List Fd × Bool
  | some x => ((x.1, max), x.2, true)
  | none => (([], 0), [], false)
/-- Reading goes on. -/
def goOn (acc : List Fd) (x : Option (List Fd × List Fd)) : Option (List Fd × List Fd) := x.map fun z => (z.1, acc ++ z.2)
theorem rdH_zero {fs : List Fd} {max : Int} (r : Nat) {b : List Int} (h : b = []) : rdH r fs max b = some (fs, []) := by subst h; exact rdH_nil r fs max
theorem rdH_cons {fs : List Fd} {max : Int} {b : List Int} {r : Nat} (h : b ≠ []) : rdH (r + 1) fs max b = (formL b).bind fun x => (stepL fs max x.1).bind fun y => (rdH r y.1 max (b.drop x.2)).map fun z => (z.1, y.2 :: z.2) := by
  rw [rdH, if_neg h]
theorem rdH_full {fs : List Fd} {max : Int} {b : List Int} (h : b ≠ []) : rdH 0 fs max b = none := by rw [rdH, if_neg h]
theorem goOn_step (acc : List Fd) (f : Fd) (x : Option (List Fd × List Fd)) : goOn acc (x.map fun z => (z.1, f :: z.2)) = goOn (acc ++ [f]) x := by
  cases x with
  | none => rfl
  | some z => simp [goOn]
/-- One round of reading. -/
theorem round_yes {fs : List Fd} {max : Int} {s : ByteArray} {acc : List Fd} (hs : bytesL s ≠ []) (hl : acc.length < 6) (h : (oneV fs max s).2.2.2 = true) :
    ∃ u : Nat, (oneV fs max s).2.2.1 = (u : Int) ∧ 1 ≤ u ∧ u ≤ s.size ∧ goOn acc (rdH (6 - acc.length) fs max (bytesL s)) = goOn (acc ++ [(oneV fs max s).2.1]) (rdH (6 - (acc ++ [(oneV fs max s).2.1]).length) (oneV fs max s).1 max (bytesL (restS s u))) ∧ (tOk fs max = true → tOk (oneV fs max s).1 max = true ∧ fOk (oneV fs max s).2.1 = true) := by
  rcases oneV_is fs max s with ⟨_, m, u, h1, h2, h3⟩ | ⟨e, _⟩
  · obtain ⟨f1, f2, f3, _⟩ := formL_more (bytesL_bd s) h1
    rw [bytesL_length] at f3
    refine ⟨u, h3, f2, f3, ?_, fun ht => step_ok ht f1 h2⟩
    rw [show 6 - acc.length = (6 - (acc ++ [(oneV fs max s).2.1]).length) + 1 by rw [List.length_append]; simp; omega, rdH_cons hs, h1, Option.bind_some]
    dsimp only
    rw [h2, Option.bind_some]
    dsimp only
    rw [goOn_step, bytesL_rest, Int.toNat_natCast]
  · rw [h] at e; cases e
theorem round_no {fs : List Fd} {max : Int} {s : ByteArray} {acc : List Fd} (hs : bytesL s ≠ []) (h : (oneV fs max s).2.2.2 = false ∨ 6 ≤ acc.length) : goOn acc (rdH (6 - acc.length) fs max (bytesL s)) = none := by
  by_cases hl : 6 ≤ acc.length
  · rw [show 6 - acc.length = 0 by omega, rdH_full hs]; rfl
  · rcases oneV_is fs max s with ⟨e, _⟩ | ⟨_, h1⟩
    · rcases h with h | h
      · rw [h] at e; cases e
      · omega
    · rw [show 6 - acc.length = (6 - acc.length - 1) + 1 by omega, rdH_cons hs]
      rcases h1 with h1 | ⟨m, u, h1, h2⟩
      · rw [h1]; rfl
      · rw [h1, Option.bind_some]
        dsimp only
        rw [h2]; rfl
/-- 'append' of one field: where the new row lies. -/
theorem wpList_appLies {ops : Array Oper} {rest : List Oper} {o : Oper} {act : Act} {Q : Exit → Act → World → Prop} (w : World) (hgd : o.guard = none) (s x : Operand)
    (ho : o.op = .call { callee := .builtin .append, args := #[s, x], argTypes := #[22, 22] })
    (base : Nat) (v : Value) (k : Nat) (xs : List Value) (hs : act.eval s = v) (hown : w.ownsRow base 98 3 v k xs) (g1 o1 n cap : Nat) (fs : List Fd) (hx : act.eval x = .slice (some ⟨g1, o1, none⟩) n cap) (hf : Fs w (some ⟨g1, o1, none⟩) n cap fs)
    (hn : 0 < n) (hk : k + n ≤ 3000000) (hb : base ≤ w.heap.size)
    (h : ∀ g c w', w'.ownsRow base 98 3 (.slice (some ⟨g, 0, none⟩) (k + n) c) (k + n) (xs ++ cellsF fs) → w.grownBy w' v.ownBlock → (v.ownBlock = some g ∨ g = w.heap.size) → wpList Try.prog ops Q rest (act.put o.dst (.slice (some ⟨g, 0, none⟩) (k + n) c)) w') : wpList Try.prog ops Q (o :: rest) act w := by
  obtain ⟨ii, hi, hz0, hz1, hz2⟩ := info_parts infoF
  refine wpList_append_lies w hgd s x 22 ho base 98 ii (.agg #[.string ⟨#[]⟩, .string ⟨#[]⟩, .bool false]) 3 40 Try.underlying22 hi hz0 hz1 hz2 rfl (by decide) v k xs hs hown ⟨g1, o1, none⟩ n cap (cellsF fs) hx (by rw [cellsF_length, hf.len]) ?_ (cellsF_one fs) hn (by unfold maxLen; omega) (by omega) hb w.heap.size rfl (fun g c w' h1 h2 h3 h4 => h g c w' h1 h2 h3)
  intro j u hu
  have := hf.cells g1 o1 rfl j u hu
  rw [Addr.add_lit]
  exact this
end Go.Proofs.Ytdnajdobmlgmiaa
