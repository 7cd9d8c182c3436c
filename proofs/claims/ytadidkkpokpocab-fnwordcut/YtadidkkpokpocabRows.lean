/-
  No cell of these rows narrows 'for every input' (looked for: loops, veiled, ifaces, maps, wideKeys, modest, calm, conditions, laid).
  DERIVED. THE GIVEN ROWS OF THIS SEAT. 6 by the template 'for every input the law returns true; each argument reads behind the call as it read before'; 0 by the template 'total and deterministic' (their statements: YtadidkkpokpocabTotals.lean).
  GIVEN WITH THE SEED: the statements are not yours to turn. If you find one false, say at which input.
  Laid BY PROGRAM, IN A SANDBOX (cutbox-rows.mjs): the forced cells as the released guide's own fill.sh prints them over the translation a02ed421ca4a5bdf… (all of the seat's roots in one cut). By AI agents, Wed Nov 11 2026. No macro, syntax, notation, axiom, sorry.
-/
import Derived.Test.YtadidkkpokpocabChecked
import GoSem.Claim
import GoSem.ClaimJoined
import GoSem.ClaimMapViews
import Derived.JoinedTies
import Derived.KernelRfl
namespace Go.Proofs.Ytadidkkpokpocab
/- THE CELL 'sum', in the pinned program and in every row, IS THE sha256 OF THE DUMP (.gsa) THAT YtadidkkpokpocabProg.lean LOADS. Nothing in Lean hashes anything: it is a label: what it is worth is what the hold of that sum in a sandbox is worth. -/
noncomputable def Try.pinned : Pinned := { name := "ytadidkkpokpocab", sum := "a02ed421ca4a5bdf6058fb039dfab0a6423d4703dba372e7fbdb4bbf51e6402f", checked := Try.checked }
namespace Rows
def none {H : Type} : Left H := { results := [], args := [] }

/-- 'laws.FnNumTwo': WHATEVER THE INPUT: true; the input reads as it did. -/
def fnNumTwoSpec : ChangeSpec := { name := "fnNumTwo", fn := fun _ => fun
  | [d1, d2] => { results := [.lit (.bool true)], args := [d1, d2] }
  | _ => none }
def fnNumTwoRow : OpenClaim := { program := "ytadidkkpokpocab", sum := "a02ed421ca4a5bdf6058fb039dfab0a6423d4703dba372e7fbdb4bbf51e6402f", func := "loop.example/lamson/laws.FnNumTwo", spec := "fnNumTwo", unfollowed := true, recurses := true, apart := false }
def FnNumTwoSaid : Prop := fnNumTwoRow.holds Try.pinned (OpenSpec.ofChange fnNumTwoSpec)

/-- ITS FALSE NEIGHBOUR: 'it returns false'. Refute it at one input. -/
def fnNumTwoWrong : ChangeSpec := { name := "fnNumTwo", fn := fun _ => fun
  | [d1, d2] => { results := [.lit (.bool false)], args := [d1, d2] }
  | _ => none }
def FnNumTwoWrongFalsely : Prop := fnNumTwoRow.holds Try.pinned (OpenSpec.ofChange fnNumTwoWrong)

/-- 'laws.FnWordCut': WHATEVER THE INPUT: true; the input reads as it did. -/
def fnWordCutSpec : ChangeSpec := { name := "fnWordCut", fn := fun _ => fun
  | [d1, d2] => { results := [.lit (.bool true)], args := [d1, d2] }
  | _ => none }
def fnWordCutRow : OpenClaim := { program := "ytadidkkpokpocab", sum := "a02ed421ca4a5bdf6058fb039dfab0a6423d4703dba372e7fbdb4bbf51e6402f", func := "loop.example/lamson/laws.FnWordCut", spec := "fnWordCut", apart := false }
def FnWordCutSaid : Prop := fnWordCutRow.holds Try.pinned (OpenSpec.ofChange fnWordCutSpec)

/-- ITS FALSE NEIGHBOUR: 'it returns false'. Refute it at one input. -/
def fnWordCutWrong : ChangeSpec := { name := "fnWordCut", fn := fun _ => fun
  | [d1, d2] => { results := [.lit (.bool false)], args := [d1, d2] }
  | _ => none }
def FnWordCutWrongFalsely : Prop := fnWordCutRow.holds Try.pinned (OpenSpec.ofChange fnWordCutWrong)

/-- 'laws.FnPackBack': WHATEVER THE INPUT: true; the input reads as it did. -/
def fnPackBackSpec : ChangeSpec := { name := "fnPackBack", fn := fun _ => fun
  | [d] => { results := [.lit (.bool true)], args := [d] }
  | _ => none }
def fnPackBackRow : OpenClaim := { program := "ytadidkkpokpocab", sum := "a02ed421ca4a5bdf6058fb039dfab0a6423d4703dba372e7fbdb4bbf51e6402f", func := "loop.example/lamson/laws.FnPackBack", spec := "fnPackBack", unfollowed := true, recurses := true, apart := false }
def FnPackBackSaid : Prop := fnPackBackRow.holds Try.pinned (OpenSpec.ofChange fnPackBackSpec)

/-- ITS FALSE NEIGHBOUR: 'it returns false'. Refute it at one input. -/
def fnPackBackWrong : ChangeSpec := { name := "fnPackBack", fn := fun _ => fun
  | [d] => { results := [.lit (.bool false)], args := [d] }
  | _ => none }
def FnPackBackWrongFalsely : Prop := fnPackBackRow.holds Try.pinned (OpenSpec.ofChange fnPackBackWrong)

/-- 'laws.FnPackStrict': WHATEVER THE INPUT: true; the input reads as it did. -/
def fnPackStrictSpec : ChangeSpec := { name := "fnPackStrict", fn := fun _ => fun
  | [d] => { results := [.lit (.bool true)], args := [d] }
  | _ => none }
def fnPackStrictRow : OpenClaim := { program := "ytadidkkpokpocab", sum := "a02ed421ca4a5bdf6058fb039dfab0a6423d4703dba372e7fbdb4bbf51e6402f", func := "loop.example/lamson/laws.FnPackStrict", spec := "fnPackStrict", unfollowed := true, recurses := true, apart := false }
def FnPackStrictSaid : Prop := fnPackStrictRow.holds Try.pinned (OpenSpec.ofChange fnPackStrictSpec)

/-- ITS FALSE NEIGHBOUR: 'it returns false'. Refute it at one input. -/
def fnPackStrictWrong : ChangeSpec := { name := "fnPackStrict", fn := fun _ => fun
  | [d] => { results := [.lit (.bool false)], args := [d] }
  | _ => none }
def FnPackStrictWrongFalsely : Prop := fnPackStrictRow.holds Try.pinned (OpenSpec.ofChange fnPackStrictWrong)

/-- 'laws.FnPackOne': WHATEVER THE INPUT: true; the input reads as it did. -/
def fnPackOneSpec : ChangeSpec := { name := "fnPackOne", fn := fun _ => fun
  | [d1, d2] => { results := [.lit (.bool true)], args := [d1, d2] }
  | _ => none }
def fnPackOneRow : OpenClaim := { program := "ytadidkkpokpocab", sum := "a02ed421ca4a5bdf6058fb039dfab0a6423d4703dba372e7fbdb4bbf51e6402f", func := "loop.example/lamson/laws.FnPackOne", spec := "fnPackOne", unfollowed := true, recurses := true, apart := false }
def FnPackOneSaid : Prop := fnPackOneRow.holds Try.pinned (OpenSpec.ofChange fnPackOneSpec)

/-- ITS FALSE NEIGHBOUR: 'it returns false'. Refute it at one input. -/
def fnPackOneWrong : ChangeSpec := { name := "fnPackOne", fn := fun _ => fun
  | [d1, d2] => { results := [.lit (.bool false)], args := [d1, d2] }
  | _ => none }
def FnPackOneWrongFalsely : Prop := fnPackOneRow.holds Try.pinned (OpenSpec.ofChange fnPackOneWrong)

/-- 'laws.FnPackOnes': WHATEVER THE INPUT: true; the input reads as it did. -/
def fnPackOnesSpec : ChangeSpec := { name := "fnPackOnes", fn := fun _ => fun
  | [d] => { results := [.lit (.bool true)], args := [d] }
  | _ => none }
def fnPackOnesRow : OpenClaim := { program := "ytadidkkpokpocab", sum := "a02ed421ca4a5bdf6058fb039dfab0a6423d4703dba372e7fbdb4bbf51e6402f", func := "loop.example/lamson/laws.FnPackOnes", spec := "fnPackOnes", unfollowed := true, recurses := true, apart := false }
def FnPackOnesSaid : Prop := fnPackOnesRow.holds Try.pinned (OpenSpec.ofChange fnPackOnesSpec)

/-- ITS FALSE NEIGHBOUR: 'it returns false'. Refute it at one input. -/
def fnPackOnesWrong : ChangeSpec := { name := "fnPackOnes", fn := fun _ => fun
  | [d] => { results := [.lit (.bool false)], args := [d] }
  | _ => none }
def FnPackOnesWrongFalsely : Prop := fnPackOnesRow.holds Try.pinned (OpenSpec.ofChange fnPackOnesWrong)

/- THE SECOND FORM. 'bulk': how many values and letters a reading holds, each counted each time it is reached (what is shared counts as often as it is met; a slice's spare places count too). A statement '..UptoSaid' is the law's where the arguments, and the package variables that the reading takes, are together of bulk at most 1048576: NARROWER than '..Said'. Prove '..Said' where nothing that the law and all that it calls make is longer than what came in: it says more and counts as full. Else prove '..UptoSaid'. A law counts once. -/
mutual
def uptoBulk {H : Type} : DataW H → Nat
  | .lit (.string bytes) => bytes.length + 1
  | .lit _ => 1
  | .nil => 1
  | .ptr d => uptoBulk d + 1
  | .slice elems spare => uptoBulkAll elems + uptoBulkAll spare + 1
  | .agg parts => uptoBulkAll parts + 1
  | .iface _ d => uptoBulk d + 1
  | .map entries => uptoBulkEntries entries + 1
  | .held _ => 1
def uptoBulkAll {H : Type} : List (DataW H) → Nat
  | [] => 0
  | d :: r => uptoBulk d + uptoBulkAll r
def uptoBulkEntries {H : Type} : List (Lit × DataW H) → Nat
  | [] => 0
  | x :: r => uptoBulkEntry x + uptoBulkEntries r
def uptoBulkEntry {H : Type} : Lit × DataW H → Nat
  | (.string bytes, d) => bytes.length + uptoBulk d + 1
  | (_, d) => uptoBulk d + 1
 end
def uptoSmall : (H : Type) → List (DataW H) → Bool := fun _ ds => decide (uptoBulkAll ds ≤ 1048576)
def OpenSpec.upto (s : _root_.Go.ChangeSpec) : _root_.Go.OpenSpec := { _root_.Go.OpenSpec.ofChange s with cond := some uptoSmall }

/-- 'laws.FnNumTwo', WHERE WHAT IT READS IS OF BULK AT MOST 1048576: true; the input reads as it did. -/
def fnNumTwoUptoRow : OpenClaim := { program := "ytadidkkpokpocab", sum := "a02ed421ca4a5bdf6058fb039dfab0a6423d4703dba372e7fbdb4bbf51e6402f", func := "loop.example/lamson/laws.FnNumTwo", spec := "fnNumTwo", unfollowed := true, recurses := true, apart := false, narrowed := true }
def FnNumTwoUptoSaid : Prop := fnNumTwoUptoRow.holds Try.pinned (OpenSpec.upto fnNumTwoSpec)

/-- 'laws.FnWordCut', WHERE WHAT IT READS IS OF BULK AT MOST 1048576: true; the input reads as it did. -/
def fnWordCutUptoRow : OpenClaim := { program := "ytadidkkpokpocab", sum := "a02ed421ca4a5bdf6058fb039dfab0a6423d4703dba372e7fbdb4bbf51e6402f", func := "loop.example/lamson/laws.FnWordCut", spec := "fnWordCut", apart := false, narrowed := true }
def FnWordCutUptoSaid : Prop := fnWordCutUptoRow.holds Try.pinned (OpenSpec.upto fnWordCutSpec)

/-- 'laws.FnPackBack', WHERE WHAT IT READS IS OF BULK AT MOST 1048576: true; the input reads as it did. -/
def fnPackBackUptoRow : OpenClaim := { program := "ytadidkkpokpocab", sum := "a02ed421ca4a5bdf6058fb039dfab0a6423d4703dba372e7fbdb4bbf51e6402f", func := "loop.example/lamson/laws.FnPackBack", spec := "fnPackBack", unfollowed := true, recurses := true, apart := false, narrowed := true }
def FnPackBackUptoSaid : Prop := fnPackBackUptoRow.holds Try.pinned (OpenSpec.upto fnPackBackSpec)

/-- 'laws.FnPackStrict', WHERE WHAT IT READS IS OF BULK AT MOST 1048576: true; the input reads as it did. -/
def fnPackStrictUptoRow : OpenClaim := { program := "ytadidkkpokpocab", sum := "a02ed421ca4a5bdf6058fb039dfab0a6423d4703dba372e7fbdb4bbf51e6402f", func := "loop.example/lamson/laws.FnPackStrict", spec := "fnPackStrict", unfollowed := true, recurses := true, apart := false, narrowed := true }
def FnPackStrictUptoSaid : Prop := fnPackStrictUptoRow.holds Try.pinned (OpenSpec.upto fnPackStrictSpec)

/-- 'laws.FnPackOne', WHERE WHAT IT READS IS OF BULK AT MOST 1048576: true; the input reads as it did. -/
def fnPackOneUptoRow : OpenClaim := { program := "ytadidkkpokpocab", sum := "a02ed421ca4a5bdf6058fb039dfab0a6423d4703dba372e7fbdb4bbf51e6402f", func := "loop.example/lamson/laws.FnPackOne", spec := "fnPackOne", unfollowed := true, recurses := true, apart := false, narrowed := true }
def FnPackOneUptoSaid : Prop := fnPackOneUptoRow.holds Try.pinned (OpenSpec.upto fnPackOneSpec)

/-- 'laws.FnPackOnes', WHERE WHAT IT READS IS OF BULK AT MOST 1048576: true; the input reads as it did. -/
def fnPackOnesUptoRow : OpenClaim := { program := "ytadidkkpokpocab", sum := "a02ed421ca4a5bdf6058fb039dfab0a6423d4703dba372e7fbdb4bbf51e6402f", func := "loop.example/lamson/laws.FnPackOnes", spec := "fnPackOnes", unfollowed := true, recurses := true, apart := false, narrowed := true }
def FnPackOnesUptoSaid : Prop := fnPackOnesUptoRow.holds Try.pinned (OpenSpec.upto fnPackOnesSpec)

end Rows
end Go.Proofs.Ytadidkkpokpocab
