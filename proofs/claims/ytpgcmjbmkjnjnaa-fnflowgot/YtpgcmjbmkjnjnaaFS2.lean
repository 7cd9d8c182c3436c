import Derived.Test.YtpgcmjbmkjnjnaaFS
import Derived.Deep.RegionHeld3
namespace Go.Proofs.Ytpgcmjbmkjnjnaa
open Go.RowKit
set_option linter.unusedVariables false

theorem keepF {w1 w2 : World} {p : Addr} {v : Value} (hb : Below w1.heap.size w1 w2) (h : w1.cell? p = some v) : w2.cell? p = some v := (hb.cell (World.block_lt_of_cell? w1 _ h)).trans h
theorem btF {w a b : World} (h1 : Below w.heap.size w a) (h2 : Below a.heap.size a b) : Below w.heap.size w b := h1.trans (h2.mono h1.size)
theorem frB_eq (k s : Int) (l : Bool) (b : ByteArray) : strOfNums [(b.size : Int)] ++ strOfNums [k] ++ strOfNums [lastI l] ++ strOfNums [s] ++ b = frB ⟨k, l, s, b⟩ := by
  conv => lhs; rw [← strOfNums_bytesL b]
  rw [strOfNums_append, strOfNums_append, strOfNums_append, strOfNums_append]
  unfold frB frL
  rw [strOfNums_bytesL]
  rfl

end Go.Proofs.Ytpgcmjbmkjnjnaa
