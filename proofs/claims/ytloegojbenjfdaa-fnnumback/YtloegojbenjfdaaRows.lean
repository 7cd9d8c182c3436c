/-
  No cell of these rows narrows 'for every input' (looked for: loops, veiled, ifaces, maps, wideKeys, modest, calm, conditions, laid).
  DERIVED. THE GIVEN ROWS OF THIS SEAT. 6 by the template 'for every input the law returns true; each argument reads behind the call as it read before'; 0 by the template 'total and deterministic' (their statements: YtloegojbenjfdaaTotals.lean).
  GIVEN WITH THE SEED: the statements are not yours to turn. If you find one false, say at which input.
  Laid BY PROGRAM, IN A SANDBOX (cutbox-rows.mjs): the forced cells as the released guide's own fill.sh prints them over the translation f9c8503c9ec9e914… (all of the seat's roots in one cut). By AI agents, Wed Nov 11 2026. No macro, syntax, notation, axiom, sorry.
-/
import Derived.Test.YtloegojbenjfdaaChecked
import GoSem.Claim
import GoSem.ClaimJoined
import GoSem.ClaimMapViews
import Derived.JoinedTies
import Derived.KernelRfl
namespace Go.Proofs.Ytloegojbenjfdaa
/- THE CELL 'sum', in the pinned program and in every row, IS THE sha256 OF THE DUMP (.gsa) THAT YtloegojbenjfdaaProg.lean LOADS. Nothing in Lean hashes anything: it is a label: what it is worth is what the hold of that sum in a sandbox is worth. -/
noncomputable def Try.pinned : Pinned := { name := "ytloegojbenjfdaa", sum := "f9c8503c9ec9e9142af190805732f9b97c2be50815edd0bb91b47e3e18ce6468", checked := Try.checked }
namespace Rows
def none {H : Type} : Left H := { results := [], args := [] }

/-- 'laws.FnNumBack': WHATEVER THE INPUT: true; the input reads as it did. -/
def fnNumBackSpec : ChangeSpec := { name := "fnNumBack", fn := fun _ => fun
  | [d1, d2] => { results := [.lit (.bool true)], args := [d1, d2] }
  | _ => none }
def fnNumBackRow : OpenClaim := { program := "ytloegojbenjfdaa", sum := "f9c8503c9ec9e9142af190805732f9b97c2be50815edd0bb91b47e3e18ce6468", func := "loop.example/lamson/laws.FnNumBack", spec := "fnNumBack", unfollowed := true, recurses := true, apart := false }
def FnNumBackSaid : Prop := fnNumBackRow.holds Try.pinned (OpenSpec.ofChange fnNumBackSpec)

/-- ITS FALSE NEIGHBOUR: 'it returns false'. Refute it at one input. -/
def fnNumBackWrong : ChangeSpec := { name := "fnNumBack", fn := fun _ => fun
  | [d1, d2] => { results := [.lit (.bool false)], args := [d1, d2] }
  | _ => none }
def FnNumBackWrongFalsely : Prop := fnNumBackRow.holds Try.pinned (OpenSpec.ofChange fnNumBackWrong)

/-- 'laws.FnNumStrict': WHATEVER THE INPUT: true; the input reads as it did. -/
def fnNumStrictSpec : ChangeSpec := { name := "fnNumStrict", fn := fun _ => fun
  | [d] => { results := [.lit (.bool true)], args := [d] }
  | _ => none }
def fnNumStrictRow : OpenClaim := { program := "ytloegojbenjfdaa", sum := "f9c8503c9ec9e9142af190805732f9b97c2be50815edd0bb91b47e3e18ce6468", func := "loop.example/lamson/laws.FnNumStrict", spec := "fnNumStrict", unfollowed := true, recurses := true, apart := false }
def FnNumStrictSaid : Prop := fnNumStrictRow.holds Try.pinned (OpenSpec.ofChange fnNumStrictSpec)

/-- ITS FALSE NEIGHBOUR: 'it returns false'. Refute it at one input. -/
def fnNumStrictWrong : ChangeSpec := { name := "fnNumStrict", fn := fun _ => fun
  | [d] => { results := [.lit (.bool false)], args := [d] }
  | _ => none }
def FnNumStrictWrongFalsely : Prop := fnNumStrictRow.holds Try.pinned (OpenSpec.ofChange fnNumStrictWrong)

/-- 'laws.FnNumShort': WHATEVER THE INPUT: true; the input reads as it did. -/
def fnNumShortSpec : ChangeSpec := { name := "fnNumShort", fn := fun _ => fun
  | [d1, d2] => { results := [.lit (.bool true)], args := [d1, d2] }
  | _ => none }
def fnNumShortRow : OpenClaim := { program := "ytloegojbenjfdaa", sum := "f9c8503c9ec9e9142af190805732f9b97c2be50815edd0bb91b47e3e18ce6468", func := "loop.example/lamson/laws.FnNumShort", spec := "fnNumShort", apart := false }
def FnNumShortSaid : Prop := fnNumShortRow.holds Try.pinned (OpenSpec.ofChange fnNumShortSpec)

/-- ITS FALSE NEIGHBOUR: 'it returns false'. Refute it at one input. -/
def fnNumShortWrong : ChangeSpec := { name := "fnNumShort", fn := fun _ => fun
  | [d1, d2] => { results := [.lit (.bool false)], args := [d1, d2] }
  | _ => none }
def FnNumShortWrongFalsely : Prop := fnNumShortRow.holds Try.pinned (OpenSpec.ofChange fnNumShortWrong)

/-- 'laws.FnNumHead': WHATEVER THE INPUT: true; the input reads as it did. -/
def fnNumHeadSpec : ChangeSpec := { name := "fnNumHead", fn := fun _ => fun
  | [d1, d2] => { results := [.lit (.bool true)], args := [d1, d2] }
  | _ => none }
def fnNumHeadRow : OpenClaim := { program := "ytloegojbenjfdaa", sum := "f9c8503c9ec9e9142af190805732f9b97c2be50815edd0bb91b47e3e18ce6468", func := "loop.example/lamson/laws.FnNumHead", spec := "fnNumHead", unfollowed := true, recurses := true, apart := false }
def FnNumHeadSaid : Prop := fnNumHeadRow.holds Try.pinned (OpenSpec.ofChange fnNumHeadSpec)

/-- ITS FALSE NEIGHBOUR: 'it returns false'. Refute it at one input. -/
def fnNumHeadWrong : ChangeSpec := { name := "fnNumHead", fn := fun _ => fun
  | [d1, d2] => { results := [.lit (.bool false)], args := [d1, d2] }
  | _ => none }
def FnNumHeadWrongFalsely : Prop := fnNumHeadRow.holds Try.pinned (OpenSpec.ofChange fnNumHeadWrong)

/-- 'laws.FnNumCut': WHATEVER THE INPUT: true; the input reads as it did. -/
def fnNumCutSpec : ChangeSpec := { name := "fnNumCut", fn := fun _ => fun
  | [d] => { results := [.lit (.bool true)], args := [d] }
  | _ => none }
def fnNumCutRow : OpenClaim := { program := "ytloegojbenjfdaa", sum := "f9c8503c9ec9e9142af190805732f9b97c2be50815edd0bb91b47e3e18ce6468", func := "loop.example/lamson/laws.FnNumCut", spec := "fnNumCut", unfollowed := true, recurses := true, apart := false }
def FnNumCutSaid : Prop := fnNumCutRow.holds Try.pinned (OpenSpec.ofChange fnNumCutSpec)

/-- ITS FALSE NEIGHBOUR: 'it returns false'. Refute it at one input. -/
def fnNumCutWrong : ChangeSpec := { name := "fnNumCut", fn := fun _ => fun
  | [d] => { results := [.lit (.bool false)], args := [d] }
  | _ => none }
def FnNumCutWrongFalsely : Prop := fnNumCutRow.holds Try.pinned (OpenSpec.ofChange fnNumCutWrong)

/-- 'laws.FnNumBits': WHATEVER THE INPUT: true; the input reads as it did. -/
def fnNumBitsSpec : ChangeSpec := { name := "fnNumBits", fn := fun _ => fun
  | [d] => { results := [.lit (.bool true)], args := [d] }
  | _ => none }
def fnNumBitsRow : OpenClaim := { program := "ytloegojbenjfdaa", sum := "f9c8503c9ec9e9142af190805732f9b97c2be50815edd0bb91b47e3e18ce6468", func := "loop.example/lamson/laws.FnNumBits", spec := "fnNumBits", unfollowed := true, recurses := true, apart := false }
def FnNumBitsSaid : Prop := fnNumBitsRow.holds Try.pinned (OpenSpec.ofChange fnNumBitsSpec)

/-- ITS FALSE NEIGHBOUR: 'it returns false'. Refute it at one input. -/
def fnNumBitsWrong : ChangeSpec := { name := "fnNumBits", fn := fun _ => fun
  | [d] => { results := [.lit (.bool false)], args := [d] }
  | _ => none }
def FnNumBitsWrongFalsely : Prop := fnNumBitsRow.holds Try.pinned (OpenSpec.ofChange fnNumBitsWrong)

/- THE SECOND FORM. 'bulk': how many values and letters a reading holds, each counted each time it is reached (what is shared counts as often as it is met; a slice's spare places count too). A statement '..UptoSaid' is the law's where the arguments, and the package variables that the reading takes, are together of bulk at most 1048576: NARROWER than '..Said'. Prove '..Said' where nothing that the law and all that it calls make is longer than what came in: it says more and counts as full. Else prove '..UptoSaid'. A law counts once. -/
mutual
def uptoBulk {H : Type} : DataW H → Nat
  | .lit (.string bytes) => bytes.length + 1
  | .lit _ => 1
  | .nil => 1
  | .ptr d => uptoBulk d + 1
  | .slice elems spare => uptoBulkAll elems + uptoBulkAll spare + 1
  | .agg parts => uptoBulkAll parts + 1
  | .iface _ d => uptoBulk d + 1
  | .map entries => uptoBulkEntries entries + 1
  | .held _ => 1
def uptoBulkAll {H : Type} : List (DataW H) → Nat
  | [] => 0
  | d :: r => uptoBulk d + uptoBulkAll r
def uptoBulkEntries {H : Type} : List (Lit × DataW H) → Nat
  | [] => 0
  | x :: r => uptoBulkEntry x + uptoBulkEntries r
def uptoBulkEntry {H : Type} : Lit × DataW H → Nat
  | (.string bytes, d) => bytes.length + uptoBulk d + 1
  | (_, d) => uptoBulk d + 1
 end
def uptoSmall : (H : Type) → List (DataW H) → Bool := fun _ ds => decide (uptoBulkAll ds ≤ 1048576)
def OpenSpec.upto (s : _root_.Go.ChangeSpec) : _root_.Go.OpenSpec := { _root_.Go.OpenSpec.ofChange s with cond := some uptoSmall }

/-- 'laws.FnNumBack', WHERE WHAT IT READS IS OF BULK AT MOST 1048576: true; the input reads as it did. -/
def fnNumBackUptoRow : OpenClaim := { program := "ytloegojbenjfdaa", sum := "f9c8503c9ec9e9142af190805732f9b97c2be50815edd0bb91b47e3e18ce6468", func := "loop.example/lamson/laws.FnNumBack", spec := "fnNumBack", unfollowed := true, recurses := true, apart := false, narrowed := true }
def FnNumBackUptoSaid : Prop := fnNumBackUptoRow.holds Try.pinned (OpenSpec.upto fnNumBackSpec)

/-- 'laws.FnNumStrict', WHERE WHAT IT READS IS OF BULK AT MOST 1048576: true; the input reads as it did. -/
def fnNumStrictUptoRow : OpenClaim := { program := "ytloegojbenjfdaa", sum := "f9c8503c9ec9e9142af190805732f9b97c2be50815edd0bb91b47e3e18ce6468", func := "loop.example/lamson/laws.FnNumStrict", spec := "fnNumStrict", unfollowed := true, recurses := true, apart := false, narrowed := true }
def FnNumStrictUptoSaid : Prop := fnNumStrictUptoRow.holds Try.pinned (OpenSpec.upto fnNumStrictSpec)

/-- 'laws.FnNumShort', WHERE WHAT IT READS IS OF BULK AT MOST 1048576: true; the input reads as it did. -/
def fnNumShortUptoRow : OpenClaim := { program := "ytloegojbenjfdaa", sum := "f9c8503c9ec9e9142af190805732f9b97c2be50815edd0bb91b47e3e18ce6468", func := "loop.example/lamson/laws.FnNumShort", spec := "fnNumShort", apart := false, narrowed := true }
def FnNumShortUptoSaid : Prop := fnNumShortUptoRow.holds Try.pinned (OpenSpec.upto fnNumShortSpec)

/-- 'laws.FnNumHead', WHERE WHAT IT READS IS OF BULK AT MOST 1048576: true; the input reads as it did. -/
def fnNumHeadUptoRow : OpenClaim := { program := "ytloegojbenjfdaa", sum := "f9c8503c9ec9e9142af190805732f9b97c2be50815edd0bb91b47e3e18ce6468", func := "loop.example/lamson/laws.FnNumHead", spec := "fnNumHead", unfollowed := true, recurses := true, apart := false, narrowed := true }
def FnNumHeadUptoSaid : Prop := fnNumHeadUptoRow.holds Try.pinned (OpenSpec.upto fnNumHeadSpec)

/-- 'laws.FnNumCut', WHERE WHAT IT READS IS OF BULK AT MOST 1048576: true; the input reads as it did. -/
def fnNumCutUptoRow : OpenClaim := { program := "ytloegojbenjfdaa", sum := "f9c8503c9ec9e9142af190805732f9b97c2be50815edd0bb91b47e3e18ce6468", func := "loop.example/lamson/laws.FnNumCut", spec := "fnNumCut", unfollowed := true, recurses := true, apart := false, narrowed := true }
def FnNumCutUptoSaid : Prop := fnNumCutUptoRow.holds Try.pinned (OpenSpec.upto fnNumCutSpec)

/-- 'laws.FnNumBits', WHERE WHAT IT READS IS OF BULK AT MOST 1048576: true; the input reads as it did. -/
def fnNumBitsUptoRow : OpenClaim := { program := "ytloegojbenjfdaa", sum := "f9c8503c9ec9e9142af190805732f9b97c2be50815edd0bb91b47e3e18ce6468", func := "loop.example/lamson/laws.FnNumBits", spec := "fnNumBits", unfollowed := true, recurses := true, apart := false, narrowed := true }
def FnNumBitsUptoSaid : Prop := fnNumBitsUptoRow.holds Try.pinned (OpenSpec.upto fnNumBitsSpec)

end Rows
end Go.Proofs.Ytloegojbenjfdaa
