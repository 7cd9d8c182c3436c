/-
  No cell of these rows narrows 'for every input' (looked for: loops, veiled, ifaces, maps, wideKeys, modest, calm, conditions, laid).
  DERIVED. THE GIVEN ROWS OF THIS SEAT. 4 by the template 'for every input the law returns true; each argument reads behind the call as it read before'; 0 by the template 'total and deterministic' (their statements: YtmegdgkpdonikaaTotals.lean).
  GIVEN WITH THE SEED: the statements are not yours to turn. If you find one false, say at which input.
  Laid BY PROGRAM, IN A SANDBOX (cutbox-rows.mjs): the forced cells as the released guide's own fill.sh prints them over the translation 945052eab41f38b9… (all of the seat's roots in one cut). By AI agents, Wed Nov 11 2026. No macro, syntax, notation, axiom, sorry.
-/
import Derived.Test.YtmegdgkpdonikaaChecked
import GoSem.Claim
import GoSem.ClaimJoined
import GoSem.ClaimMapViews
import Derived.JoinedTies
import Derived.KernelRfl
namespace Go.Proofs.Ytmegdgkpdonikaa
/- THE CELL 'sum', in the pinned program and in every row, IS THE sha256 OF THE DUMP (.gsa) THAT YtmegdgkpdonikaaProg.lean LOADS. Nothing in Lean hashes anything: it is a label: what it is worth is what the hold of that sum in a sandbox is worth. -/
noncomputable def Try.pinned : Pinned := { name := "ytmegdgkpdonikaa", sum := "945052eab41f38b9a12bc84742de12c4e896c7c91dabed5b728a95fabef7d3f2", checked := Try.checked }
namespace Rows
def none {H : Type} : Left H := { results := [], args := [] }

/-- 'laws.FnFrameForm': WHATEVER THE INPUT: true; the input reads as it did. -/
def fnFrameFormSpec : ChangeSpec := { name := "fnFrameForm", fn := fun _ => fun
  | [d] => { results := [.lit (.bool true)], args := [d] }
  | _ => none }
def fnFrameFormRow : OpenClaim := { program := "ytmegdgkpdonikaa", sum := "945052eab41f38b9a12bc84742de12c4e896c7c91dabed5b728a95fabef7d3f2", func := "loop.example/lamson/laws.FnFrameForm", spec := "fnFrameForm", apart := false }
def FnFrameFormSaid : Prop := fnFrameFormRow.holds Try.pinned (OpenSpec.ofChange fnFrameFormSpec)

/-- ITS FALSE NEIGHBOUR: 'it returns false'. Refute it at one input. -/
def fnFrameFormWrong : ChangeSpec := { name := "fnFrameForm", fn := fun _ => fun
  | [d] => { results := [.lit (.bool false)], args := [d] }
  | _ => none }
def FnFrameFormWrongFalsely : Prop := fnFrameFormRow.holds Try.pinned (OpenSpec.ofChange fnFrameFormWrong)

/-- 'laws.FnFrameOne': WHATEVER THE INPUT: true; the input reads as it did. -/
def fnFrameOneSpec : ChangeSpec := { name := "fnFrameOne", fn := fun _ => fun
  | [d1, d2] => { results := [.lit (.bool true)], args := [d1, d2] }
  | _ => none }
def fnFrameOneRow : OpenClaim := { program := "ytmegdgkpdonikaa", sum := "945052eab41f38b9a12bc84742de12c4e896c7c91dabed5b728a95fabef7d3f2", func := "loop.example/lamson/laws.FnFrameOne", spec := "fnFrameOne", apart := false }
def FnFrameOneSaid : Prop := fnFrameOneRow.holds Try.pinned (OpenSpec.ofChange fnFrameOneSpec)

/-- ITS FALSE NEIGHBOUR: 'it returns false'. Refute it at one input. -/
def fnFrameOneWrong : ChangeSpec := { name := "fnFrameOne", fn := fun _ => fun
  | [d1, d2] => { results := [.lit (.bool false)], args := [d1, d2] }
  | _ => none }
def FnFrameOneWrongFalsely : Prop := fnFrameOneRow.holds Try.pinned (OpenSpec.ofChange fnFrameOneWrong)

/-- 'laws.FnExactFrameOk': WHATEVER THE INPUT: true; the input reads as it did. -/
def fnExactFrameOkSpec : ChangeSpec := { name := "fnExactFrameOk", fn := fun _ => fun
  | [d] => { results := [.lit (.bool true)], args := [d] }
  | _ => none }
def fnExactFrameOkRow : OpenClaim := { program := "ytmegdgkpdonikaa", sum := "945052eab41f38b9a12bc84742de12c4e896c7c91dabed5b728a95fabef7d3f2", func := "loop.example/lamson/laws.FnExactFrameOk", spec := "fnExactFrameOk", apart := false }
def FnExactFrameOkSaid : Prop := fnExactFrameOkRow.holds Try.pinned (OpenSpec.ofChange fnExactFrameOkSpec)

/-- ITS FALSE NEIGHBOUR: 'it returns false'. Refute it at one input. -/
def fnExactFrameOkWrong : ChangeSpec := { name := "fnExactFrameOk", fn := fun _ => fun
  | [d] => { results := [.lit (.bool false)], args := [d] }
  | _ => none }
def FnExactFrameOkWrongFalsely : Prop := fnExactFrameOkRow.holds Try.pinned (OpenSpec.ofChange fnExactFrameOkWrong)

/-- 'laws.FnExactFrameWrite': WHATEVER THE INPUT: true; the input reads as it did. -/
def fnExactFrameWriteSpec : ChangeSpec := { name := "fnExactFrameWrite", fn := fun _ => fun
  | [d] => { results := [.lit (.bool true)], args := [d] }
  | _ => none }
def fnExactFrameWriteRow : OpenClaim := { program := "ytmegdgkpdonikaa", sum := "945052eab41f38b9a12bc84742de12c4e896c7c91dabed5b728a95fabef7d3f2", func := "loop.example/lamson/laws.FnExactFrameWrite", spec := "fnExactFrameWrite", apart := false }
def FnExactFrameWriteSaid : Prop := fnExactFrameWriteRow.holds Try.pinned (OpenSpec.ofChange fnExactFrameWriteSpec)

/-- ITS FALSE NEIGHBOUR: 'it returns false'. Refute it at one input. -/
def fnExactFrameWriteWrong : ChangeSpec := { name := "fnExactFrameWrite", fn := fun _ => fun
  | [d] => { results := [.lit (.bool false)], args := [d] }
  | _ => none }
def FnExactFrameWriteWrongFalsely : Prop := fnExactFrameWriteRow.holds Try.pinned (OpenSpec.ofChange fnExactFrameWriteWrong)

/- THE SECOND FORM. 'bulk': how many values and letters a reading holds, each counted each time it is reached (what is shared counts as often as it is met; a slice's spare places count too). A statement '..UptoSaid' is the law's where the arguments, and the package variables that the reading takes, are together of bulk at most 1048576: NARROWER than '..Said'. Prove '..Said' where nothing that the law and all that it calls make is longer than what came in: it says more and counts as full. Else prove '..UptoSaid'. A law counts once. -/
mutual
def uptoBulk {H : Type} : DataW H → Nat
  | .lit (.string bytes) => bytes.length + 1
  | .lit _ => 1
  | .nil => 1
  | .ptr d => uptoBulk d + 1
  | .slice elems spare => uptoBulkAll elems + uptoBulkAll spare + 1
  | .agg parts => uptoBulkAll parts + 1
  | .iface _ d => uptoBulk d + 1
  | .map entries => uptoBulkEntries entries + 1
  | .held _ => 1
def uptoBulkAll {H : Type} : List (DataW H) → Nat
  | [] => 0
  | d :: r => uptoBulk d + uptoBulkAll r
def uptoBulkEntries {H : Type} : List (Lit × DataW H) → Nat
  | [] => 0
  | x :: r => uptoBulkEntry x + uptoBulkEntries r
def uptoBulkEntry {H : Type} : Lit × DataW H → Nat
  | (.string bytes, d) => bytes.length + uptoBulk d + 1
  | (_, d) => uptoBulk d + 1
 end
def uptoSmall : (H : Type) → List (DataW H) → Bool := fun _ ds => decide (uptoBulkAll ds ≤ 1048576)
def OpenSpec.upto (s : _root_.Go.ChangeSpec) : _root_.Go.OpenSpec := { _root_.Go.OpenSpec.ofChange s with cond := some uptoSmall }

/-- 'laws.FnFrameForm', WHERE WHAT IT READS IS OF BULK AT MOST 1048576: true; the input reads as it did. -/
def fnFrameFormUptoRow : OpenClaim := { program := "ytmegdgkpdonikaa", sum := "945052eab41f38b9a12bc84742de12c4e896c7c91dabed5b728a95fabef7d3f2", func := "loop.example/lamson/laws.FnFrameForm", spec := "fnFrameForm", apart := false, narrowed := true }
def FnFrameFormUptoSaid : Prop := fnFrameFormUptoRow.holds Try.pinned (OpenSpec.upto fnFrameFormSpec)

/-- 'laws.FnFrameOne', WHERE WHAT IT READS IS OF BULK AT MOST 1048576: true; the input reads as it did. -/
def fnFrameOneUptoRow : OpenClaim := { program := "ytmegdgkpdonikaa", sum := "945052eab41f38b9a12bc84742de12c4e896c7c91dabed5b728a95fabef7d3f2", func := "loop.example/lamson/laws.FnFrameOne", spec := "fnFrameOne", apart := false, narrowed := true }
def FnFrameOneUptoSaid : Prop := fnFrameOneUptoRow.holds Try.pinned (OpenSpec.upto fnFrameOneSpec)

/-- 'laws.FnExactFrameOk', WHERE WHAT IT READS IS OF BULK AT MOST 1048576: true; the input reads as it did. -/
def fnExactFrameOkUptoRow : OpenClaim := { program := "ytmegdgkpdonikaa", sum := "945052eab41f38b9a12bc84742de12c4e896c7c91dabed5b728a95fabef7d3f2", func := "loop.example/lamson/laws.FnExactFrameOk", spec := "fnExactFrameOk", apart := false, narrowed := true }
def FnExactFrameOkUptoSaid : Prop := fnExactFrameOkUptoRow.holds Try.pinned (OpenSpec.upto fnExactFrameOkSpec)

/-- 'laws.FnExactFrameWrite', WHERE WHAT IT READS IS OF BULK AT MOST 1048576: true; the input reads as it did. -/
def fnExactFrameWriteUptoRow : OpenClaim := { program := "ytmegdgkpdonikaa", sum := "945052eab41f38b9a12bc84742de12c4e896c7c91dabed5b728a95fabef7d3f2", func := "loop.example/lamson/laws.FnExactFrameWrite", spec := "fnExactFrameWrite", apart := false, narrowed := true }
def FnExactFrameWriteUptoSaid : Prop := fnExactFrameWriteUptoRow.holds Try.pinned (OpenSpec.upto fnExactFrameWriteSpec)

end Rows
end Go.Proofs.Ytmegdgkpdonikaa
