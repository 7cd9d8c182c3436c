/-
  No cell of these rows narrows 'for every input' (looked for: loops, veiled, ifaces, maps, wideKeys, modest, calm, conditions, laid).
  DERIVED. THE GIVEN ROWS OF THIS SEAT. 5 by the template 'for every input the law returns true; each argument reads behind the call as it read before'; 0 by the template 'total and deterministic' (their statements: YtbhoafiolalgaabTotals.lean).
  GIVEN WITH THE SEED: the statements are not yours to turn. If you find one false, say at which input.
  Laid BY PROGRAM, IN A SANDBOX (cutbox-rows.mjs): the forced cells as the released guide's own fill.sh prints them over the translation e88b3dbbafa4b46c… (all of the seat's roots in one cut). By AI agents, Wed Nov 11 2026. No macro, syntax, notation, axiom, sorry.
-/
import Derived.Test.YtbhoafiolalgaabChecked
import GoSem.Claim
import GoSem.ClaimJoined
import GoSem.ClaimMapViews
import Derived.JoinedTies
import Derived.KernelRfl
namespace Go.Proofs.Ytbhoafiolalgaab
/- THE CELL 'sum', in the pinned program and in every row, IS THE sha256 OF THE DUMP (.gsa) THAT YtbhoafiolalgaabProg.lean LOADS. Nothing in Lean hashes anything: it is a label: what it is worth is what the hold of that sum in a sandbox is worth. -/
noncomputable def Try.pinned : Pinned := { name := "ytbhoafiolalgaab", sum := "e88b3dbbafa4b46c3366b762351557717d823ff3187a6b56d8772760cbe7472d", checked := Try.checked }
namespace Rows
def none {H : Type} : Left H := { results := [], args := [] }

/-- 'laws.FnHeadBad': WHATEVER THE INPUT: true; the input reads as it did. -/
def fnHeadBadSpec : ChangeSpec := { name := "fnHeadBad", fn := fun _ => fun
  | [d1, d2] => { results := [.lit (.bool true)], args := [d1, d2] }
  | _ => none }
def fnHeadBadRow : OpenClaim := { program := "ytbhoafiolalgaab", sum := "e88b3dbbafa4b46c3366b762351557717d823ff3187a6b56d8772760cbe7472d", func := "loop.example/lamson/laws.FnHeadBad", spec := "fnHeadBad", unfollowed := true, recurses := true, apart := false }
def FnHeadBadSaid : Prop := fnHeadBadRow.holds Try.pinned (OpenSpec.ofChange fnHeadBadSpec)

/-- ITS FALSE NEIGHBOUR: 'it returns false'. Refute it at one input. -/
def fnHeadBadWrong : ChangeSpec := { name := "fnHeadBad", fn := fun _ => fun
  | [d1, d2] => { results := [.lit (.bool false)], args := [d1, d2] }
  | _ => none }
def FnHeadBadWrongFalsely : Prop := fnHeadBadRow.holds Try.pinned (OpenSpec.ofChange fnHeadBadWrong)

/-- 'laws.FnExactHeadOk': WHATEVER THE INPUT: true; the input reads as it did. -/
def fnExactHeadOkSpec : ChangeSpec := { name := "fnExactHeadOk", fn := fun _ => fun
  | [d] => { results := [.lit (.bool true)], args := [d] }
  | _ => none }
def fnExactHeadOkRow : OpenClaim := { program := "ytbhoafiolalgaab", sum := "e88b3dbbafa4b46c3366b762351557717d823ff3187a6b56d8772760cbe7472d", func := "loop.example/lamson/laws.FnExactHeadOk", spec := "fnExactHeadOk", apart := false }
def FnExactHeadOkSaid : Prop := fnExactHeadOkRow.holds Try.pinned (OpenSpec.ofChange fnExactHeadOkSpec)

/-- ITS FALSE NEIGHBOUR: 'it returns false'. Refute it at one input. -/
def fnExactHeadOkWrong : ChangeSpec := { name := "fnExactHeadOk", fn := fun _ => fun
  | [d] => { results := [.lit (.bool false)], args := [d] }
  | _ => none }
def FnExactHeadOkWrongFalsely : Prop := fnExactHeadOkRow.holds Try.pinned (OpenSpec.ofChange fnExactHeadOkWrong)

/-- 'laws.FnExactHeadWrite': WHATEVER THE INPUT: true; the input reads as it did. -/
def fnExactHeadWriteSpec : ChangeSpec := { name := "fnExactHeadWrite", fn := fun _ => fun
  | [d1, d2] => { results := [.lit (.bool true)], args := [d1, d2] }
  | _ => none }
def fnExactHeadWriteRow : OpenClaim := { program := "ytbhoafiolalgaab", sum := "e88b3dbbafa4b46c3366b762351557717d823ff3187a6b56d8772760cbe7472d", func := "loop.example/lamson/laws.FnExactHeadWrite", spec := "fnExactHeadWrite", unfollowed := true, recurses := true, apart := false }
def FnExactHeadWriteSaid : Prop := fnExactHeadWriteRow.holds Try.pinned (OpenSpec.ofChange fnExactHeadWriteSpec)

/-- ITS FALSE NEIGHBOUR: 'it returns false'. Refute it at one input. -/
def fnExactHeadWriteWrong : ChangeSpec := { name := "fnExactHeadWrite", fn := fun _ => fun
  | [d1, d2] => { results := [.lit (.bool false)], args := [d1, d2] }
  | _ => none }
def FnExactHeadWriteWrongFalsely : Prop := fnExactHeadWriteRow.holds Try.pinned (OpenSpec.ofChange fnExactHeadWriteWrong)

/-- 'laws.FnExactHeadRead': WHATEVER THE INPUT: true; the input reads as it did. -/
def fnExactHeadReadSpec : ChangeSpec := { name := "fnExactHeadRead", fn := fun _ => fun
  | [d1, d2] => { results := [.lit (.bool true)], args := [d1, d2] }
  | _ => none }
def fnExactHeadReadRow : OpenClaim := { program := "ytbhoafiolalgaab", sum := "e88b3dbbafa4b46c3366b762351557717d823ff3187a6b56d8772760cbe7472d", func := "loop.example/lamson/laws.FnExactHeadRead", spec := "fnExactHeadRead", unfollowed := true, recurses := true, apart := false }
def FnExactHeadReadSaid : Prop := fnExactHeadReadRow.holds Try.pinned (OpenSpec.ofChange fnExactHeadReadSpec)

/-- ITS FALSE NEIGHBOUR: 'it returns false'. Refute it at one input. -/
def fnExactHeadReadWrong : ChangeSpec := { name := "fnExactHeadRead", fn := fun _ => fun
  | [d1, d2] => { results := [.lit (.bool false)], args := [d1, d2] }
  | _ => none }
def FnExactHeadReadWrongFalsely : Prop := fnExactHeadReadRow.holds Try.pinned (OpenSpec.ofChange fnExactHeadReadWrong)

/-- 'laws.FnExactHeadGet': WHATEVER THE INPUT: true; the input reads as it did. -/
def fnExactHeadGetSpec : ChangeSpec := { name := "fnExactHeadGet", fn := fun _ => fun
  | [d1, d2] => { results := [.lit (.bool true)], args := [d1, d2] }
  | _ => none }
def fnExactHeadGetRow : OpenClaim := { program := "ytbhoafiolalgaab", sum := "e88b3dbbafa4b46c3366b762351557717d823ff3187a6b56d8772760cbe7472d", func := "loop.example/lamson/laws.FnExactHeadGet", spec := "fnExactHeadGet", apart := false }
def FnExactHeadGetSaid : Prop := fnExactHeadGetRow.holds Try.pinned (OpenSpec.ofChange fnExactHeadGetSpec)

/-- ITS FALSE NEIGHBOUR: 'it returns false'. Refute it at one input. -/
def fnExactHeadGetWrong : ChangeSpec := { name := "fnExactHeadGet", fn := fun _ => fun
  | [d1, d2] => { results := [.lit (.bool false)], args := [d1, d2] }
  | _ => none }
def FnExactHeadGetWrongFalsely : Prop := fnExactHeadGetRow.holds Try.pinned (OpenSpec.ofChange fnExactHeadGetWrong)

/- THE SECOND FORM. 'bulk': how many values and letters a reading holds, each counted each time it is reached (what is shared counts as often as it is met; a slice's spare places count too). A statement '..UptoSaid' is the law's where the arguments, and the package variables that the reading takes, are together of bulk at most 1048576: NARROWER than '..Said'. Prove '..Said' where nothing that the law and all that it calls make is longer than what came in: it says more and counts as full. Else prove '..UptoSaid'. A law counts once. -/
mutual
def uptoBulk {H : Type} : DataW H → Nat
  | .lit (.string bytes) => bytes.length + 1
  | .lit _ => 1
  | .nil => 1
  | .ptr d => uptoBulk d + 1
  | .slice elems spare => uptoBulkAll elems + uptoBulkAll spare + 1
  | .agg parts => uptoBulkAll parts + 1
  | .iface _ d => uptoBulk d + 1
  | .map entries => uptoBulkEntries entries + 1
  | .held _ => 1
def uptoBulkAll {H : Type} : List (DataW H) → Nat
  | [] => 0
  | d :: r => uptoBulk d + uptoBulkAll r
def uptoBulkEntries {H : Type} : List (Lit × DataW H) → Nat
  | [] => 0
  | x :: r => uptoBulkEntry x + uptoBulkEntries r
def uptoBulkEntry {H : Type} : Lit × DataW H → Nat
  | (.string bytes, d) => bytes.length + uptoBulk d + 1
  | (_, d) => uptoBulk d + 1
 end
def uptoSmall : (H : Type) → List (DataW H) → Bool := fun _ ds => decide (uptoBulkAll ds ≤ 1048576)
def OpenSpec.upto (s : _root_.Go.ChangeSpec) : _root_.Go.OpenSpec := { _root_.Go.OpenSpec.ofChange s with cond := some uptoSmall }

/-- 'laws.FnHeadBad', WHERE WHAT IT READS IS OF BULK AT MOST 1048576: true; the input reads as it did. -/
def fnHeadBadUptoRow : OpenClaim := { program := "ytbhoafiolalgaab", sum := "e88b3dbbafa4b46c3366b762351557717d823ff3187a6b56d8772760cbe7472d", func := "loop.example/lamson/laws.FnHeadBad", spec := "fnHeadBad", unfollowed := true, recurses := true, apart := false, narrowed := true }
def FnHeadBadUptoSaid : Prop := fnHeadBadUptoRow.holds Try.pinned (OpenSpec.upto fnHeadBadSpec)

/-- 'laws.FnExactHeadOk', WHERE WHAT IT READS IS OF BULK AT MOST 1048576: true; the input reads as it did. -/
def fnExactHeadOkUptoRow : OpenClaim := { program := "ytbhoafiolalgaab", sum := "e88b3dbbafa4b46c3366b762351557717d823ff3187a6b56d8772760cbe7472d", func := "loop.example/lamson/laws.FnExactHeadOk", spec := "fnExactHeadOk", apart := false, narrowed := true }
def FnExactHeadOkUptoSaid : Prop := fnExactHeadOkUptoRow.holds Try.pinned (OpenSpec.upto fnExactHeadOkSpec)

/-- 'laws.FnExactHeadWrite', WHERE WHAT IT READS IS OF BULK AT MOST 1048576: true; the input reads as it did. -/
def fnExactHeadWriteUptoRow : OpenClaim := { program := "ytbhoafiolalgaab", sum := "e88b3dbbafa4b46c3366b762351557717d823ff3187a6b56d8772760cbe7472d", func := "loop.example/lamson/laws.FnExactHeadWrite", spec := "fnExactHeadWrite", unfollowed := true, recurses := true, apart := false, narrowed := true }
def FnExactHeadWriteUptoSaid : Prop := fnExactHeadWriteUptoRow.holds Try.pinned (OpenSpec.upto fnExactHeadWriteSpec)

/-- 'laws.FnExactHeadRead', WHERE WHAT IT READS IS OF BULK AT MOST 1048576: true; the input reads as it did. -/
def fnExactHeadReadUptoRow : OpenClaim := { program := "ytbhoafiolalgaab", sum := "e88b3dbbafa4b46c3366b762351557717d823ff3187a6b56d8772760cbe7472d", func := "loop.example/lamson/laws.FnExactHeadRead", spec := "fnExactHeadRead", unfollowed := true, recurses := true, apart := false, narrowed := true }
def FnExactHeadReadUptoSaid : Prop := fnExactHeadReadUptoRow.holds Try.pinned (OpenSpec.upto fnExactHeadReadSpec)

/-- 'laws.FnExactHeadGet', WHERE WHAT IT READS IS OF BULK AT MOST 1048576: true; the input reads as it did. -/
def fnExactHeadGetUptoRow : OpenClaim := { program := "ytbhoafiolalgaab", sum := "e88b3dbbafa4b46c3366b762351557717d823ff3187a6b56d8772760cbe7472d", func := "loop.example/lamson/laws.FnExactHeadGet", spec := "fnExactHeadGet", apart := false, narrowed := true }
def FnExactHeadGetUptoSaid : Prop := fnExactHeadGetUptoRow.holds Try.pinned (OpenSpec.upto fnExactHeadGetSpec)

end Rows
end Go.Proofs.Ytbhoafiolalgaab
