import Derived.Test.YtdnajdobmlgmiaaHR3
namespace Go.Proofs.Ytdnajdobmlgmiaa
open Go.RowKit
set_option linter.unusedVariables false

def lenS : Value → Nat
  | .string s => s.size
  | _ => 0
/-- What stands in a round of reading: the table in its box, the fields so far, the rest of the bytes. -/
structure RdIn (w : World) (max : Int) (R : Option (List Fd × List Fd)) (s1 o1 : Value) (wr : World) (gs acc : List Fd) (a1 : Option Addr) (n1 c1 : Nat) (ao : Option Addr) (no co : Nat) (s : ByteArray) : Prop where
  b : s1 = .string s
  o : o1 = .slice ao no co
  len : acc.length = no
  tab : wr.heap[w.heap.size]? = some (.cells #[.slice a1 n1 c1, .int .i64 max] 24 (0, 0))
  res : wr.heap[w.heap.size + 1]? = some (.cells #[.slice none 0 0, .int .i64 0] 24 (0, 0))
  fs : Fs wr a1 n1 c1 gs
  own : wr.ownsRow w.heap.size 98 3 (.slice ao no co) no (cellsF acc)
  apart : ∀ g x, a1 = some ⟨g, x, none⟩ → 0 < n1 → (Value.slice ao no co).ownBlock ≠ some g
  ok : tOk gs max = true
  sz : s.size ≤ 1000
  six : acc.length ≤ 6
  all : ∀ f ∈ acc, fOk f = true
  on : goOn acc (rdH (6 - acc.length) gs max (bytesL s)) = R
  bel : Below w.heap.size w wr
theorem bytes_ne {s : ByteArray} (h : 0 < s.size) : bytesL s ≠ [] := by
  intro e
  have := bytesL_length s
  rw [e] at this
  simp at this
  omega
theorem nm16 {gs : List Fd} {max : Int} (h : tOk gs max = true) : ∀ f ∈ fixedL ++ gs, f.n.size ≤ 16 := fun f hf => (fOk_size (all_ok h f hf).1).1
theorem bd_ok {gs : List Fd} {max : Int} (h : tOk gs max = true) : fsBd gs := fun x hx => by have := fOk_size ((tOk_parts h).1 x hx).1; omega
end Go.Proofs.Ytdnajdobmlgmiaa
