/-
  No cell of these rows narrows 'for every input' (looked for: loops, veiled, ifaces, maps, wideKeys, modest, calm, conditions, laid).
  DERIVED. THE GIVEN ROWS OF THIS SEAT. 2 by the template 'for every input the law returns true; each argument reads behind the call as it read before'; 0 by the template 'total and deterministic' (their statements: YtafhpcgdlmkbeafTotals.lean).
  GIVEN WITH THE SEED: the statements are not yours to turn. If you find one false, say at which input.
  Laid BY PROGRAM, IN A SANDBOX (cutbox-rows.mjs): the forced cells as the released guide's own fill.sh prints them over the translation aa37c8e84e6cedcb… (all of the seat's roots in one cut). By AI agents, Wed Nov 11 2026. No macro, syntax, notation, axiom, sorry.
-/
import Derived.Test.YtafhpcgdlmkbeafChecked
import GoSem.Claim
import GoSem.ClaimJoined
import GoSem.ClaimMapViews
import Derived.JoinedTies
import Derived.KernelRfl
namespace Go.Proofs.Ytafhpcgdlmkbeaf
/- THE CELL 'sum', in the pinned program and in every row, IS THE sha256 OF THE DUMP (.gsa) THAT YtafhpcgdlmkbeafProg.lean LOADS. Nothing in Lean hashes anything: it is a label: what it is worth is what the hold of that sum in a sandbox is worth. -/
noncomputable def Try.pinned : Pinned := { name := "ytafhpcgdlmkbeaf", sum := "aa37c8e84e6cedcb73e82a96835e38039d9716011a32e1b535055e5261ab5746", checked := Try.checked }
namespace Rows
def none {H : Type} : Left H := { results := [], args := [] }

/-- 'laws.FnLimitNone': WHATEVER THE INPUT: true; the input reads as it did. -/
def fnLimitNoneSpec : ChangeSpec := { name := "fnLimitNone", fn := fun _ => fun
  | [d] => { results := [.lit (.bool true)], args := [d] }
  | _ => none }
def fnLimitNoneRow : OpenClaim := { program := "ytafhpcgdlmkbeaf", sum := "aa37c8e84e6cedcb73e82a96835e38039d9716011a32e1b535055e5261ab5746", func := "loop.example/lamson/laws.FnLimitNone", spec := "fnLimitNone", apart := false }
def FnLimitNoneSaid : Prop := fnLimitNoneRow.holds Try.pinned (OpenSpec.ofChange fnLimitNoneSpec)

/-- ITS FALSE NEIGHBOUR: 'it returns false'. Refute it at one input. -/
def fnLimitNoneWrong : ChangeSpec := { name := "fnLimitNone", fn := fun _ => fun
  | [d] => { results := [.lit (.bool false)], args := [d] }
  | _ => none }
def FnLimitNoneWrongFalsely : Prop := fnLimitNoneRow.holds Try.pinned (OpenSpec.ofChange fnLimitNoneWrong)

/-- 'laws.FnLimitTwice': WHATEVER THE INPUT: true; the input reads as it did. -/
def fnLimitTwiceSpec : ChangeSpec := { name := "fnLimitTwice", fn := fun _ => fun
  | [d1, d2] => { results := [.lit (.bool true)], args := [d1, d2] }
  | _ => none }
def fnLimitTwiceRow : OpenClaim := { program := "ytafhpcgdlmkbeaf", sum := "aa37c8e84e6cedcb73e82a96835e38039d9716011a32e1b535055e5261ab5746", func := "loop.example/lamson/laws.FnLimitTwice", spec := "fnLimitTwice", apart := false }
def FnLimitTwiceSaid : Prop := fnLimitTwiceRow.holds Try.pinned (OpenSpec.ofChange fnLimitTwiceSpec)

/-- ITS FALSE NEIGHBOUR: 'it returns false'. Refute it at one input. -/
def fnLimitTwiceWrong : ChangeSpec := { name := "fnLimitTwice", fn := fun _ => fun
  | [d1, d2] => { results := [.lit (.bool false)], args := [d1, d2] }
  | _ => none }
def FnLimitTwiceWrongFalsely : Prop := fnLimitTwiceRow.holds Try.pinned (OpenSpec.ofChange fnLimitTwiceWrong)

/- THE SECOND FORM. 'bulk': how many values and letters a reading holds, each counted each time it is reached (what is shared counts as often as it is met; a slice's spare places count too). A statement '..UptoSaid' is the law's where the arguments, and the package variables that the reading takes, are together of bulk at most 1048576: NARROWER than '..Said'. Prove '..Said' where nothing that the law and all that it calls make is longer than what came in: it says more and counts as full. Else prove '..UptoSaid'. A law counts once. -/
mutual
def uptoBulk {H : Type} : DataW H → Nat
  | .lit (.string bytes) => bytes.length + 1
  | .lit _ => 1
  | .nil => 1
  | .ptr d => uptoBulk d + 1
  | .slice elems spare => uptoBulkAll elems + uptoBulkAll spare + 1
  | .agg parts => uptoBulkAll parts + 1
  | .iface _ d => uptoBulk d + 1
  | .map entries => uptoBulkEntries entries + 1
  | .held _ => 1
def uptoBulkAll {H : Type} : List (DataW H) → Nat
  | [] => 0
  | d :: r => uptoBulk d + uptoBulkAll r
def uptoBulkEntries {H : Type} : List (Lit × DataW H) → Nat
  | [] => 0
  | x :: r => uptoBulkEntry x + uptoBulkEntries r
def uptoBulkEntry {H : Type} : Lit × DataW H → Nat
  | (.string bytes, d) => bytes.length + uptoBulk d + 1
  | (_, d) => uptoBulk d + 1
 end
def uptoSmall : (H : Type) → List (DataW H) → Bool := fun _ ds => decide (uptoBulkAll ds ≤ 1048576)
def OpenSpec.upto (s : _root_.Go.ChangeSpec) : _root_.Go.OpenSpec := { _root_.Go.OpenSpec.ofChange s with cond := some uptoSmall }

/-- 'laws.FnLimitNone', WHERE WHAT IT READS IS OF BULK AT MOST 1048576: true; the input reads as it did. -/
def fnLimitNoneUptoRow : OpenClaim := { program := "ytafhpcgdlmkbeaf", sum := "aa37c8e84e6cedcb73e82a96835e38039d9716011a32e1b535055e5261ab5746", func := "loop.example/lamson/laws.FnLimitNone", spec := "fnLimitNone", apart := false, narrowed := true }
def FnLimitNoneUptoSaid : Prop := fnLimitNoneUptoRow.holds Try.pinned (OpenSpec.upto fnLimitNoneSpec)

/-- 'laws.FnLimitTwice', WHERE WHAT IT READS IS OF BULK AT MOST 1048576: true; the input reads as it did. -/
def fnLimitTwiceUptoRow : OpenClaim := { program := "ytafhpcgdlmkbeaf", sum := "aa37c8e84e6cedcb73e82a96835e38039d9716011a32e1b535055e5261ab5746", func := "loop.example/lamson/laws.FnLimitTwice", spec := "fnLimitTwice", apart := false, narrowed := true }
def FnLimitTwiceUptoSaid : Prop := fnLimitTwiceUptoRow.holds Try.pinned (OpenSpec.upto fnLimitTwiceSpec)

end Rows
end Go.Proofs.Ytafhpcgdlmkbeaf
