/-
  No cell of these rows narrows 'for every input' (looked for: loops, veiled, ifaces, maps, wideKeys, modest, calm, conditions, laid).
  DERIVED. THE GIVEN ROWS OF THIS SEAT. 11 by the template 'for every input the law returns true; each argument reads behind the call as it read before'; 0 by the template 'total and deterministic' (their statements: YtbhoafiolalgaaaTotals.lean).
  GIVEN WITH THE SEED: the statements are not yours to turn. If you find one false, say at which input.
  Laid BY PROGRAM, IN A SANDBOX (cutbox-rows.mjs): the forced cells as the released guide's own fill.sh prints them over the translation 4bc9f551efd9a28c… (all of the seat's roots in one cut). By AI agents, Wed Nov 11 2026. No macro, syntax, notation, axiom, sorry.
-/
import Derived.Test.YtbhoafiolalgaaaChecked
import GoSem.Claim
import GoSem.ClaimJoined
import GoSem.ClaimMapViews
import Derived.JoinedTies
import Derived.KernelRfl
namespace Go.Proofs.Ytbhoafiolalgaaa
/- THE CELL 'sum', in the pinned program and in every row, IS THE sha256 OF THE DUMP (.gsa) THAT YtbhoafiolalgaaaProg.lean LOADS. Nothing in Lean hashes anything: it is a label: what it is worth is what the hold of that sum in a sandbox is worth. -/
noncomputable def Try.pinned : Pinned := { name := "ytbhoafiolalgaaa", sum := "4bc9f551efd9a28c194e185f17b8e126550d65f9c1fa059fffc81921af27fead", checked := Try.checked }
namespace Rows
def none {H : Type} : Left H := { results := [], args := [] }

/-- 'laws.FnHeadBack': WHATEVER THE INPUT: true; the input reads as it did. -/
def fnHeadBackSpec : ChangeSpec := { name := "fnHeadBack", fn := fun _ => fun
  | [d] => { results := [.lit (.bool true)], args := [d] }
  | _ => none }
def fnHeadBackRow : OpenClaim := { program := "ytbhoafiolalgaaa", sum := "4bc9f551efd9a28c194e185f17b8e126550d65f9c1fa059fffc81921af27fead", func := "loop.example/lamson/laws.FnHeadBack", spec := "fnHeadBack", unfollowed := true, recurses := true, apart := false }
def FnHeadBackSaid : Prop := fnHeadBackRow.holds Try.pinned (OpenSpec.ofChange fnHeadBackSpec)

/-- ITS FALSE NEIGHBOUR: 'it returns false'. Refute it at one input. -/
def fnHeadBackWrong : ChangeSpec := { name := "fnHeadBack", fn := fun _ => fun
  | [d] => { results := [.lit (.bool false)], args := [d] }
  | _ => none }
def FnHeadBackWrongFalsely : Prop := fnHeadBackRow.holds Try.pinned (OpenSpec.ofChange fnHeadBackWrong)

/-- 'laws.FnHeadTwo': WHATEVER THE INPUT: true; the input reads as it did. -/
def fnHeadTwoSpec : ChangeSpec := { name := "fnHeadTwo", fn := fun _ => fun
  | [d1, d2] => { results := [.lit (.bool true)], args := [d1, d2] }
  | _ => none }
def fnHeadTwoRow : OpenClaim := { program := "ytbhoafiolalgaaa", sum := "4bc9f551efd9a28c194e185f17b8e126550d65f9c1fa059fffc81921af27fead", func := "loop.example/lamson/laws.FnHeadTwo", spec := "fnHeadTwo", unfollowed := true, recurses := true, apart := false }
def FnHeadTwoSaid : Prop := fnHeadTwoRow.holds Try.pinned (OpenSpec.ofChange fnHeadTwoSpec)

/-- ITS FALSE NEIGHBOUR: 'it returns false'. Refute it at one input. -/
def fnHeadTwoWrong : ChangeSpec := { name := "fnHeadTwo", fn := fun _ => fun
  | [d1, d2] => { results := [.lit (.bool false)], args := [d1, d2] }
  | _ => none }
def FnHeadTwoWrongFalsely : Prop := fnHeadTwoRow.holds Try.pinned (OpenSpec.ofChange fnHeadTwoWrong)

/-- 'laws.FnHeadCut': WHATEVER THE INPUT: true; the input reads as it did. -/
def fnHeadCutSpec : ChangeSpec := { name := "fnHeadCut", fn := fun _ => fun
  | [d1, d2] => { results := [.lit (.bool true)], args := [d1, d2] }
  | _ => none }
def fnHeadCutRow : OpenClaim := { program := "ytbhoafiolalgaaa", sum := "4bc9f551efd9a28c194e185f17b8e126550d65f9c1fa059fffc81921af27fead", func := "loop.example/lamson/laws.FnHeadCut", spec := "fnHeadCut", unfollowed := true, recurses := true, apart := false }
def FnHeadCutSaid : Prop := fnHeadCutRow.holds Try.pinned (OpenSpec.ofChange fnHeadCutSpec)

/-- ITS FALSE NEIGHBOUR: 'it returns false'. Refute it at one input. -/
def fnHeadCutWrong : ChangeSpec := { name := "fnHeadCut", fn := fun _ => fun
  | [d1, d2] => { results := [.lit (.bool false)], args := [d1, d2] }
  | _ => none }
def FnHeadCutWrongFalsely : Prop := fnHeadCutRow.holds Try.pinned (OpenSpec.ofChange fnHeadCutWrong)

/-- 'laws.FnHeadAgain': WHATEVER THE INPUT: true; the input reads as it did. -/
def fnHeadAgainSpec : ChangeSpec := { name := "fnHeadAgain", fn := fun _ => fun
  | [d] => { results := [.lit (.bool true)], args := [d] }
  | _ => none }
def fnHeadAgainRow : OpenClaim := { program := "ytbhoafiolalgaaa", sum := "4bc9f551efd9a28c194e185f17b8e126550d65f9c1fa059fffc81921af27fead", func := "loop.example/lamson/laws.FnHeadAgain", spec := "fnHeadAgain", unfollowed := true, recurses := true, apart := false }
def FnHeadAgainSaid : Prop := fnHeadAgainRow.holds Try.pinned (OpenSpec.ofChange fnHeadAgainSpec)

/-- ITS FALSE NEIGHBOUR: 'it returns false'. Refute it at one input. -/
def fnHeadAgainWrong : ChangeSpec := { name := "fnHeadAgain", fn := fun _ => fun
  | [d] => { results := [.lit (.bool false)], args := [d] }
  | _ => none }
def FnHeadAgainWrongFalsely : Prop := fnHeadAgainRow.holds Try.pinned (OpenSpec.ofChange fnHeadAgainWrong)

/-- 'laws.FnHeadNever': WHATEVER THE INPUT: true; the input reads as it did. -/
def fnHeadNeverSpec : ChangeSpec := { name := "fnHeadNever", fn := fun _ => fun
  | [d] => { results := [.lit (.bool true)], args := [d] }
  | _ => none }
def fnHeadNeverRow : OpenClaim := { program := "ytbhoafiolalgaaa", sum := "4bc9f551efd9a28c194e185f17b8e126550d65f9c1fa059fffc81921af27fead", func := "loop.example/lamson/laws.FnHeadNever", spec := "fnHeadNever", unfollowed := true, recurses := true, apart := false }
def FnHeadNeverSaid : Prop := fnHeadNeverRow.holds Try.pinned (OpenSpec.ofChange fnHeadNeverSpec)

/-- ITS FALSE NEIGHBOUR: 'it returns false'. Refute it at one input. -/
def fnHeadNeverWrong : ChangeSpec := { name := "fnHeadNever", fn := fun _ => fun
  | [d] => { results := [.lit (.bool false)], args := [d] }
  | _ => none }
def FnHeadNeverWrongFalsely : Prop := fnHeadNeverRow.holds Try.pinned (OpenSpec.ofChange fnHeadNeverWrong)

/-- 'laws.FnHeadRead': WHATEVER THE INPUT: true; the input reads as it did. -/
def fnHeadReadSpec : ChangeSpec := { name := "fnHeadRead", fn := fun _ => fun
  | [d] => { results := [.lit (.bool true)], args := [d] }
  | _ => none }
def fnHeadReadRow : OpenClaim := { program := "ytbhoafiolalgaaa", sum := "4bc9f551efd9a28c194e185f17b8e126550d65f9c1fa059fffc81921af27fead", func := "loop.example/lamson/laws.FnHeadRead", spec := "fnHeadRead", unfollowed := true, recurses := true, apart := false }
def FnHeadReadSaid : Prop := fnHeadReadRow.holds Try.pinned (OpenSpec.ofChange fnHeadReadSpec)

/-- ITS FALSE NEIGHBOUR: 'it returns false'. Refute it at one input. -/
def fnHeadReadWrong : ChangeSpec := { name := "fnHeadRead", fn := fun _ => fun
  | [d] => { results := [.lit (.bool false)], args := [d] }
  | _ => none }
def FnHeadReadWrongFalsely : Prop := fnHeadReadRow.holds Try.pinned (OpenSpec.ofChange fnHeadReadWrong)

/-- 'laws.FnHeadLess': WHATEVER THE INPUT: true; the input reads as it did. -/
def fnHeadLessSpec : ChangeSpec := { name := "fnHeadLess", fn := fun _ => fun
  | [d1, d2] => { results := [.lit (.bool true)], args := [d1, d2] }
  | _ => none }
def fnHeadLessRow : OpenClaim := { program := "ytbhoafiolalgaaa", sum := "4bc9f551efd9a28c194e185f17b8e126550d65f9c1fa059fffc81921af27fead", func := "loop.example/lamson/laws.FnHeadLess", spec := "fnHeadLess", apart := false }
def FnHeadLessSaid : Prop := fnHeadLessRow.holds Try.pinned (OpenSpec.ofChange fnHeadLessSpec)

/-- ITS FALSE NEIGHBOUR: 'it returns false'. Refute it at one input. -/
def fnHeadLessWrong : ChangeSpec := { name := "fnHeadLess", fn := fun _ => fun
  | [d1, d2] => { results := [.lit (.bool false)], args := [d1, d2] }
  | _ => none }
def FnHeadLessWrongFalsely : Prop := fnHeadLessRow.holds Try.pinned (OpenSpec.ofChange fnHeadLessWrong)

/-- 'laws.FnHeadGet': WHATEVER THE INPUT: true; the input reads as it did. -/
def fnHeadGetSpec : ChangeSpec := { name := "fnHeadGet", fn := fun _ => fun
  | [d] => { results := [.lit (.bool true)], args := [d] }
  | _ => none }
def fnHeadGetRow : OpenClaim := { program := "ytbhoafiolalgaaa", sum := "4bc9f551efd9a28c194e185f17b8e126550d65f9c1fa059fffc81921af27fead", func := "loop.example/lamson/laws.FnHeadGet", spec := "fnHeadGet", apart := false }
def FnHeadGetSaid : Prop := fnHeadGetRow.holds Try.pinned (OpenSpec.ofChange fnHeadGetSpec)

/-- ITS FALSE NEIGHBOUR: 'it returns false'. Refute it at one input. -/
def fnHeadGetWrong : ChangeSpec := { name := "fnHeadGet", fn := fun _ => fun
  | [d] => { results := [.lit (.bool false)], args := [d] }
  | _ => none }
def FnHeadGetWrongFalsely : Prop := fnHeadGetRow.holds Try.pinned (OpenSpec.ofChange fnHeadGetWrong)

/-- 'laws.FnHeadNone': WHATEVER THE INPUT: true; the input reads as it did. -/
def fnHeadNoneSpec : ChangeSpec := { name := "fnHeadNone", fn := fun _ => fun
  | [d] => { results := [.lit (.bool true)], args := [d] }
  | _ => none }
def fnHeadNoneRow : OpenClaim := { program := "ytbhoafiolalgaaa", sum := "4bc9f551efd9a28c194e185f17b8e126550d65f9c1fa059fffc81921af27fead", func := "loop.example/lamson/laws.FnHeadNone", spec := "fnHeadNone", unfollowed := true, recurses := true, apart := false }
def FnHeadNoneSaid : Prop := fnHeadNoneRow.holds Try.pinned (OpenSpec.ofChange fnHeadNoneSpec)

/-- ITS FALSE NEIGHBOUR: 'it returns false'. Refute it at one input. -/
def fnHeadNoneWrong : ChangeSpec := { name := "fnHeadNone", fn := fun _ => fun
  | [d] => { results := [.lit (.bool false)], args := [d] }
  | _ => none }
def FnHeadNoneWrongFalsely : Prop := fnHeadNoneRow.holds Try.pinned (OpenSpec.ofChange fnHeadNoneWrong)

/-- 'laws.FnHeadFixed': WHATEVER THE INPUT: true; the input reads as it did. -/
def fnHeadFixedSpec : ChangeSpec := { name := "fnHeadFixed", fn := fun _ => fun
  | [d1, d2] => { results := [.lit (.bool true)], args := [d1, d2] }
  | _ => none }
def fnHeadFixedRow : OpenClaim := { program := "ytbhoafiolalgaaa", sum := "4bc9f551efd9a28c194e185f17b8e126550d65f9c1fa059fffc81921af27fead", func := "loop.example/lamson/laws.FnHeadFixed", spec := "fnHeadFixed", unfollowed := true, recurses := true, apart := false }
def FnHeadFixedSaid : Prop := fnHeadFixedRow.holds Try.pinned (OpenSpec.ofChange fnHeadFixedSpec)

/-- ITS FALSE NEIGHBOUR: 'it returns false'. Refute it at one input. -/
def fnHeadFixedWrong : ChangeSpec := { name := "fnHeadFixed", fn := fun _ => fun
  | [d1, d2] => { results := [.lit (.bool false)], args := [d1, d2] }
  | _ => none }
def FnHeadFixedWrongFalsely : Prop := fnHeadFixedRow.holds Try.pinned (OpenSpec.ofChange fnHeadFixedWrong)

/-- 'laws.FnHeadSmall': WHATEVER THE INPUT: true; the input reads as it did. -/
def fnHeadSmallSpec : ChangeSpec := { name := "fnHeadSmall", fn := fun _ => fun
  | [d] => { results := [.lit (.bool true)], args := [d] }
  | _ => none }
def fnHeadSmallRow : OpenClaim := { program := "ytbhoafiolalgaaa", sum := "4bc9f551efd9a28c194e185f17b8e126550d65f9c1fa059fffc81921af27fead", func := "loop.example/lamson/laws.FnHeadSmall", spec := "fnHeadSmall", unfollowed := true, recurses := true, apart := false }
def FnHeadSmallSaid : Prop := fnHeadSmallRow.holds Try.pinned (OpenSpec.ofChange fnHeadSmallSpec)

/-- ITS FALSE NEIGHBOUR: 'it returns false'. Refute it at one input. -/
def fnHeadSmallWrong : ChangeSpec := { name := "fnHeadSmall", fn := fun _ => fun
  | [d] => { results := [.lit (.bool false)], args := [d] }
  | _ => none }
def FnHeadSmallWrongFalsely : Prop := fnHeadSmallRow.holds Try.pinned (OpenSpec.ofChange fnHeadSmallWrong)

/- THE SECOND FORM. 'bulk': how many values and letters a reading holds, each counted each time it is reached (what is shared counts as often as it is met; a slice's spare places count too). A statement '..UptoSaid' is the law's where the arguments, and the package variables that the reading takes, are together of bulk at most 1048576: NARROWER than '..Said'. Prove '..Said' where nothing that the law and all that it calls make is longer than what came in: it says more and counts as full. Else prove '..UptoSaid'. A law counts once. -/
mutual
def uptoBulk {H : Type} : DataW H → Nat
  | .lit (.string bytes) => bytes.length + 1
  | .lit _ => 1
  | .nil => 1
  | .ptr d => uptoBulk d + 1
  | .slice elems spare => uptoBulkAll elems + uptoBulkAll spare + 1
  | .agg parts => uptoBulkAll parts + 1
  | .iface _ d => uptoBulk d + 1
  | .map entries => uptoBulkEntries entries + 1
  | .held _ => 1
def uptoBulkAll {H : Type} : List (DataW H) → Nat
  | [] => 0
  | d :: r => uptoBulk d + uptoBulkAll r
def uptoBulkEntries {H : Type} : List (Lit × DataW H) → Nat
  | [] => 0
  | x :: r => uptoBulkEntry x + uptoBulkEntries r
def uptoBulkEntry {H : Type} : Lit × DataW H → Nat
  | (.string bytes, d) => bytes.length + uptoBulk d + 1
  | (_, d) => uptoBulk d + 1
 end
def uptoSmall : (H : Type) → List (DataW H) → Bool := fun _ ds => decide (uptoBulkAll ds ≤ 1048576)
def OpenSpec.upto (s : _root_.Go.ChangeSpec) : _root_.Go.OpenSpec := { _root_.Go.OpenSpec.ofChange s with cond := some uptoSmall }

/-- 'laws.FnHeadBack', WHERE WHAT IT READS IS OF BULK AT MOST 1048576: true; the input reads as it did. -/
def fnHeadBackUptoRow : OpenClaim := { program := "ytbhoafiolalgaaa", sum := "4bc9f551efd9a28c194e185f17b8e126550d65f9c1fa059fffc81921af27fead", func := "loop.example/lamson/laws.FnHeadBack", spec := "fnHeadBack", unfollowed := true, recurses := true, apart := false, narrowed := true }
def FnHeadBackUptoSaid : Prop := fnHeadBackUptoRow.holds Try.pinned (OpenSpec.upto fnHeadBackSpec)

/-- 'laws.FnHeadTwo', WHERE WHAT IT READS IS OF BULK AT MOST 1048576: true; the input reads as it did. -/
def fnHeadTwoUptoRow : OpenClaim := { program := "ytbhoafiolalgaaa", sum := "4bc9f551efd9a28c194e185f17b8e126550d65f9c1fa059fffc81921af27fead", func := "loop.example/lamson/laws.FnHeadTwo", spec := "fnHeadTwo", unfollowed := true, recurses := true, apart := false, narrowed := true }
def FnHeadTwoUptoSaid : Prop := fnHeadTwoUptoRow.holds Try.pinned (OpenSpec.upto fnHeadTwoSpec)

/-- 'laws.FnHeadCut', WHERE WHAT IT READS IS OF BULK AT MOST 1048576: true; the input reads as it did. -/
def fnHeadCutUptoRow : OpenClaim := { program := "ytbhoafiolalgaaa", sum := "4bc9f551efd9a28c194e185f17b8e126550d65f9c1fa059fffc81921af27fead", func := "loop.example/lamson/laws.FnHeadCut", spec := "fnHeadCut", unfollowed := true, recurses := true, apart := false, narrowed := true }
def FnHeadCutUptoSaid : Prop := fnHeadCutUptoRow.holds Try.pinned (OpenSpec.upto fnHeadCutSpec)

/-- 'laws.FnHeadAgain', WHERE WHAT IT READS IS OF BULK AT MOST 1048576: true; the input reads as it did. -/
def fnHeadAgainUptoRow : OpenClaim := { program := "ytbhoafiolalgaaa", sum := "4bc9f551efd9a28c194e185f17b8e126550d65f9c1fa059fffc81921af27fead", func := "loop.example/lamson/laws.FnHeadAgain", spec := "fnHeadAgain", unfollowed := true, recurses := true, apart := false, narrowed := true }
def FnHeadAgainUptoSaid : Prop := fnHeadAgainUptoRow.holds Try.pinned (OpenSpec.upto fnHeadAgainSpec)

/-- 'laws.FnHeadNever', WHERE WHAT IT READS IS OF BULK AT MOST 1048576: true; the input reads as it did. -/
def fnHeadNeverUptoRow : OpenClaim := { program := "ytbhoafiolalgaaa", sum := "4bc9f551efd9a28c194e185f17b8e126550d65f9c1fa059fffc81921af27fead", func := "loop.example/lamson/laws.FnHeadNever", spec := "fnHeadNever", unfollowed := true, recurses := true, apart := false, narrowed := true }
def FnHeadNeverUptoSaid : Prop := fnHeadNeverUptoRow.holds Try.pinned (OpenSpec.upto fnHeadNeverSpec)

/-- 'laws.FnHeadRead', WHERE WHAT IT READS IS OF BULK AT MOST 1048576: true; the input reads as it did. -/
def fnHeadReadUptoRow : OpenClaim := { program := "ytbhoafiolalgaaa", sum := "4bc9f551efd9a28c194e185f17b8e126550d65f9c1fa059fffc81921af27fead", func := "loop.example/lamson/laws.FnHeadRead", spec := "fnHeadRead", unfollowed := true, recurses := true, apart := false, narrowed := true }
def FnHeadReadUptoSaid : Prop := fnHeadReadUptoRow.holds Try.pinned (OpenSpec.upto fnHeadReadSpec)

/-- 'laws.FnHeadLess', WHERE WHAT IT READS IS OF BULK AT MOST 1048576: true; the input reads as it did. -/
def fnHeadLessUptoRow : OpenClaim := { program := "ytbhoafiolalgaaa", sum := "4bc9f551efd9a28c194e185f17b8e126550d65f9c1fa059fffc81921af27fead", func := "loop.example/lamson/laws.FnHeadLess", spec := "fnHeadLess", apart := false, narrowed := true }
def FnHeadLessUptoSaid : Prop := fnHeadLessUptoRow.holds Try.pinned (OpenSpec.upto fnHeadLessSpec)

/-- 'laws.FnHeadGet', WHERE WHAT IT READS IS OF BULK AT MOST 1048576: true; the input reads as it did. -/
def fnHeadGetUptoRow : OpenClaim := { program := "ytbhoafiolalgaaa", sum := "4bc9f551efd9a28c194e185f17b8e126550d65f9c1fa059fffc81921af27fead", func := "loop.example/lamson/laws.FnHeadGet", spec := "fnHeadGet", apart := false, narrowed := true }
def FnHeadGetUptoSaid : Prop := fnHeadGetUptoRow.holds Try.pinned (OpenSpec.upto fnHeadGetSpec)

/-- 'laws.FnHeadNone', WHERE WHAT IT READS IS OF BULK AT MOST 1048576: true; the input reads as it did. -/
def fnHeadNoneUptoRow : OpenClaim := { program := "ytbhoafiolalgaaa", sum := "4bc9f551efd9a28c194e185f17b8e126550d65f9c1fa059fffc81921af27fead", func := "loop.example/lamson/laws.FnHeadNone", spec := "fnHeadNone", unfollowed := true, recurses := true, apart := false, narrowed := true }
def FnHeadNoneUptoSaid : Prop := fnHeadNoneUptoRow.holds Try.pinned (OpenSpec.upto fnHeadNoneSpec)

/-- 'laws.FnHeadFixed', WHERE WHAT IT READS IS OF BULK AT MOST 1048576: true; the input reads as it did. -/
def fnHeadFixedUptoRow : OpenClaim := { program := "ytbhoafiolalgaaa", sum := "4bc9f551efd9a28c194e185f17b8e126550d65f9c1fa059fffc81921af27fead", func := "loop.example/lamson/laws.FnHeadFixed", spec := "fnHeadFixed", unfollowed := true, recurses := true, apart := false, narrowed := true }
def FnHeadFixedUptoSaid : Prop := fnHeadFixedUptoRow.holds Try.pinned (OpenSpec.upto fnHeadFixedSpec)

/-- 'laws.FnHeadSmall', WHERE WHAT IT READS IS OF BULK AT MOST 1048576: true; the input reads as it did. -/
def fnHeadSmallUptoRow : OpenClaim := { program := "ytbhoafiolalgaaa", sum := "4bc9f551efd9a28c194e185f17b8e126550d65f9c1fa059fffc81921af27fead", func := "loop.example/lamson/laws.FnHeadSmall", spec := "fnHeadSmall", unfollowed := true, recurses := true, apart := false, narrowed := true }
def FnHeadSmallUptoSaid : Prop := fnHeadSmallUptoRow.holds Try.pinned (OpenSpec.upto fnHeadSmallSpec)

end Rows
end Go.Proofs.Ytbhoafiolalgaaa
