/-
  No cell of these rows narrows 'for every input' (looked for: loops, veiled, ifaces, maps, wideKeys, modest, calm, conditions, laid).
  DERIVED. THE GIVEN ROWS OF THIS SEAT. 5 by the template 'for every input the law returns true; each argument reads behind the call as it read before'; 0 by the template 'total and deterministic' (their statements: YtafhpcgdlmkbeaxTotals.lean).
  GIVEN WITH THE SEED: the statements are not yours to turn. If you find one false, say at which input.
  Laid BY PROGRAM, IN A SANDBOX (cutbox-rows.mjs): the forced cells as the released guide's own fill.sh prints them over the translation 256b76af7421003f… (all of the seat's roots in one cut). By AI agents, Wed Nov 11 2026. No macro, syntax, notation, axiom, sorry.
-/
import Derived.Test.YtafhpcgdlmkbeaxChecked
import GoSem.Claim
import GoSem.ClaimJoined
import GoSem.ClaimMapViews
import Derived.JoinedTies
import Derived.KernelRfl
namespace Go.Proofs.Ytafhpcgdlmkbeax
/- THE CELL 'sum', in the pinned program and in every row, IS THE sha256 OF THE DUMP (.gsa) THAT YtafhpcgdlmkbeaxProg.lean LOADS. Nothing in Lean hashes anything: it is a label: what it is worth is what the hold of that sum in a sandbox is worth. -/
noncomputable def Try.pinned : Pinned := { name := "ytafhpcgdlmkbeax", sum := "256b76af7421003fb0379ce7a88f2f63545e2808832336c19353597eb272fcb6", checked := Try.checked }
namespace Rows
def none {H : Type} : Left H := { results := [], args := [] }

/-- 'laws.FnExactWordWrite': WHATEVER THE INPUT: true; the input reads as it did. -/
def fnExactWordWriteSpec : ChangeSpec := { name := "fnExactWordWrite", fn := fun _ => fun
  | [d] => { results := [.lit (.bool true)], args := [d] }
  | _ => none }
def fnExactWordWriteRow : OpenClaim := { program := "ytafhpcgdlmkbeax", sum := "256b76af7421003fb0379ce7a88f2f63545e2808832336c19353597eb272fcb6", func := "loop.example/lamson/laws.FnExactWordWrite", spec := "fnExactWordWrite", unfollowed := true, recurses := true, apart := false }
def FnExactWordWriteSaid : Prop := fnExactWordWriteRow.holds Try.pinned (OpenSpec.ofChange fnExactWordWriteSpec)

/-- ITS FALSE NEIGHBOUR: 'it returns false'. Refute it at one input. -/
def fnExactWordWriteWrong : ChangeSpec := { name := "fnExactWordWrite", fn := fun _ => fun
  | [d] => { results := [.lit (.bool false)], args := [d] }
  | _ => none }
def FnExactWordWriteWrongFalsely : Prop := fnExactWordWriteRow.holds Try.pinned (OpenSpec.ofChange fnExactWordWriteWrong)

/-- 'laws.FnExactWordRead': WHATEVER THE INPUT: true; the input reads as it did. -/
def fnExactWordReadSpec : ChangeSpec := { name := "fnExactWordRead", fn := fun _ => fun
  | [d] => { results := [.lit (.bool true)], args := [d] }
  | _ => none }
def fnExactWordReadRow : OpenClaim := { program := "ytafhpcgdlmkbeax", sum := "256b76af7421003fb0379ce7a88f2f63545e2808832336c19353597eb272fcb6", func := "loop.example/lamson/laws.FnExactWordRead", spec := "fnExactWordRead", unfollowed := true, recurses := true, apart := false }
def FnExactWordReadSaid : Prop := fnExactWordReadRow.holds Try.pinned (OpenSpec.ofChange fnExactWordReadSpec)

/-- ITS FALSE NEIGHBOUR: 'it returns false'. Refute it at one input. -/
def fnExactWordReadWrong : ChangeSpec := { name := "fnExactWordRead", fn := fun _ => fun
  | [d] => { results := [.lit (.bool false)], args := [d] }
  | _ => none }
def FnExactWordReadWrongFalsely : Prop := fnExactWordReadRow.holds Try.pinned (OpenSpec.ofChange fnExactWordReadWrong)

/-- 'laws.FnExactFieldOk': WHATEVER THE INPUT: true; the input reads as it did. -/
def fnExactFieldOkSpec : ChangeSpec := { name := "fnExactFieldOk", fn := fun _ => fun
  | [d] => { results := [.lit (.bool true)], args := [d] }
  | _ => none }
def fnExactFieldOkRow : OpenClaim := { program := "ytafhpcgdlmkbeax", sum := "256b76af7421003fb0379ce7a88f2f63545e2808832336c19353597eb272fcb6", func := "loop.example/lamson/laws.FnExactFieldOk", spec := "fnExactFieldOk", apart := false }
def FnExactFieldOkSaid : Prop := fnExactFieldOkRow.holds Try.pinned (OpenSpec.ofChange fnExactFieldOkSpec)

/-- ITS FALSE NEIGHBOUR: 'it returns false'. Refute it at one input. -/
def fnExactFieldOkWrong : ChangeSpec := { name := "fnExactFieldOk", fn := fun _ => fun
  | [d] => { results := [.lit (.bool false)], args := [d] }
  | _ => none }
def FnExactFieldOkWrongFalsely : Prop := fnExactFieldOkRow.holds Try.pinned (OpenSpec.ofChange fnExactFieldOkWrong)

/-- 'laws.FnExactTableFixed': WHATEVER THE INPUT: true; the input reads as it did. -/
def fnExactTableFixedSpec : ChangeSpec := { name := "fnExactTableFixed", fn := fun _ => fun
  | [] => { results := [.lit (.bool true)], args := [] }
  | _ => none }
def fnExactTableFixedRow : OpenClaim := { program := "ytafhpcgdlmkbeax", sum := "256b76af7421003fb0379ce7a88f2f63545e2808832336c19353597eb272fcb6", func := "loop.example/lamson/laws.FnExactTableFixed", spec := "fnExactTableFixed", apart := false }
def FnExactTableFixedSaid : Prop := fnExactTableFixedRow.holds Try.pinned (OpenSpec.ofChange fnExactTableFixedSpec)

/-- ITS FALSE NEIGHBOUR: 'it returns false'. Refute it at one input. -/
def fnExactTableFixedWrong : ChangeSpec := { name := "fnExactTableFixed", fn := fun _ => fun
  | [] => { results := [.lit (.bool false)], args := [] }
  | _ => none }
def FnExactTableFixedWrongFalsely : Prop := fnExactTableFixedRow.holds Try.pinned (OpenSpec.ofChange fnExactTableFixedWrong)

/-- 'laws.FnExactTableSize': WHATEVER THE INPUT: true; the input reads as it did. -/
def fnExactTableSizeSpec : ChangeSpec := { name := "fnExactTableSize", fn := fun _ => fun
  | [d] => { results := [.lit (.bool true)], args := [d] }
  | _ => none }
def fnExactTableSizeRow : OpenClaim := { program := "ytafhpcgdlmkbeax", sum := "256b76af7421003fb0379ce7a88f2f63545e2808832336c19353597eb272fcb6", func := "loop.example/lamson/laws.FnExactTableSize", spec := "fnExactTableSize", apart := false }
def FnExactTableSizeSaid : Prop := fnExactTableSizeRow.holds Try.pinned (OpenSpec.ofChange fnExactTableSizeSpec)

/-- ITS FALSE NEIGHBOUR: 'it returns false'. Refute it at one input. -/
def fnExactTableSizeWrong : ChangeSpec := { name := "fnExactTableSize", fn := fun _ => fun
  | [d] => { results := [.lit (.bool false)], args := [d] }
  | _ => none }
def FnExactTableSizeWrongFalsely : Prop := fnExactTableSizeRow.holds Try.pinned (OpenSpec.ofChange fnExactTableSizeWrong)

/- THE SECOND FORM. 'bulk': how many values and letters a reading holds, each counted each time it is reached (what is shared counts as often as it is met; a slice's spare places count too). A statement '..UptoSaid' is the law's where the arguments, and the package variables that the reading takes, are together of bulk at most 1048576: NARROWER than '..Said'. Prove '..Said' where nothing that the law and all that it calls make is longer than what came in: it says more and counts as full. Else prove '..UptoSaid'. A law counts once. -/
mutual
def uptoBulk {H : Type} : DataW H → Nat
  | .lit (.string bytes) => bytes.length + 1
  | .lit _ => 1
  | .nil => 1
  | .ptr d => uptoBulk d + 1
  | .slice elems spare => uptoBulkAll elems + uptoBulkAll spare + 1
  | .agg parts => uptoBulkAll parts + 1
  | .iface _ d => uptoBulk d + 1
  | .map entries => uptoBulkEntries entries + 1
  | .held _ => 1
def uptoBulkAll {H : Type} : List (DataW H) → Nat
  | [] => 0
  | d :: r => uptoBulk d + uptoBulkAll r
def uptoBulkEntries {H : Type} : List (Lit × DataW H) → Nat
  | [] => 0
  | x :: r => uptoBulkEntry x + uptoBulkEntries r
def uptoBulkEntry {H : Type} : Lit × DataW H → Nat
  | (.string bytes, d) => bytes.length + uptoBulk d + 1
  | (_, d) => uptoBulk d + 1
 end
def uptoSmall : (H : Type) → List (DataW H) → Bool := fun _ ds => decide (uptoBulkAll ds ≤ 1048576)
def OpenSpec.upto (s : _root_.Go.ChangeSpec) : _root_.Go.OpenSpec := { _root_.Go.OpenSpec.ofChange s with cond := some uptoSmall }

/-- 'laws.FnExactWordWrite', WHERE WHAT IT READS IS OF BULK AT MOST 1048576: true; the input reads as it did. -/
def fnExactWordWriteUptoRow : OpenClaim := { program := "ytafhpcgdlmkbeax", sum := "256b76af7421003fb0379ce7a88f2f63545e2808832336c19353597eb272fcb6", func := "loop.example/lamson/laws.FnExactWordWrite", spec := "fnExactWordWrite", unfollowed := true, recurses := true, apart := false, narrowed := true }
def FnExactWordWriteUptoSaid : Prop := fnExactWordWriteUptoRow.holds Try.pinned (OpenSpec.upto fnExactWordWriteSpec)

/-- 'laws.FnExactWordRead', WHERE WHAT IT READS IS OF BULK AT MOST 1048576: true; the input reads as it did. -/
def fnExactWordReadUptoRow : OpenClaim := { program := "ytafhpcgdlmkbeax", sum := "256b76af7421003fb0379ce7a88f2f63545e2808832336c19353597eb272fcb6", func := "loop.example/lamson/laws.FnExactWordRead", spec := "fnExactWordRead", unfollowed := true, recurses := true, apart := false, narrowed := true }
def FnExactWordReadUptoSaid : Prop := fnExactWordReadUptoRow.holds Try.pinned (OpenSpec.upto fnExactWordReadSpec)

/-- 'laws.FnExactFieldOk', WHERE WHAT IT READS IS OF BULK AT MOST 1048576: true; the input reads as it did. -/
def fnExactFieldOkUptoRow : OpenClaim := { program := "ytafhpcgdlmkbeax", sum := "256b76af7421003fb0379ce7a88f2f63545e2808832336c19353597eb272fcb6", func := "loop.example/lamson/laws.FnExactFieldOk", spec := "fnExactFieldOk", apart := false, narrowed := true }
def FnExactFieldOkUptoSaid : Prop := fnExactFieldOkUptoRow.holds Try.pinned (OpenSpec.upto fnExactFieldOkSpec)

/-- 'laws.FnExactTableFixed', WHERE WHAT IT READS IS OF BULK AT MOST 1048576: true; the input reads as it did. -/
def fnExactTableFixedUptoRow : OpenClaim := { program := "ytafhpcgdlmkbeax", sum := "256b76af7421003fb0379ce7a88f2f63545e2808832336c19353597eb272fcb6", func := "loop.example/lamson/laws.FnExactTableFixed", spec := "fnExactTableFixed", apart := false, narrowed := true }
def FnExactTableFixedUptoSaid : Prop := fnExactTableFixedUptoRow.holds Try.pinned (OpenSpec.upto fnExactTableFixedSpec)

/-- 'laws.FnExactTableSize', WHERE WHAT IT READS IS OF BULK AT MOST 1048576: true; the input reads as it did. -/
def fnExactTableSizeUptoRow : OpenClaim := { program := "ytafhpcgdlmkbeax", sum := "256b76af7421003fb0379ce7a88f2f63545e2808832336c19353597eb272fcb6", func := "loop.example/lamson/laws.FnExactTableSize", spec := "fnExactTableSize", apart := false, narrowed := true }
def FnExactTableSizeUptoSaid : Prop := fnExactTableSizeUptoRow.holds Try.pinned (OpenSpec.upto fnExactTableSizeSpec)

end Rows
end Go.Proofs.Ytafhpcgdlmkbeax
