/-
  No cell of these rows narrows 'for every input' (looked for: loops, veiled, ifaces, maps, wideKeys, modest, calm, conditions, laid).
  DERIVED. THE GIVEN ROWS OF THIS SEAT. 11 by the template 'for every input the law returns true; each argument reads behind the call as it read before'; 0 by the template 'total and deterministic' (their statements: YtpgcmjbmkjnjnaaTotals.lean).
  GIVEN WITH THE SEED: the statements are not yours to turn. If you find one false, say at which input.
  Laid BY PROGRAM, IN A SANDBOX (cutbox-rows.mjs): the forced cells as the released guide's own fill.sh prints them over the translation a429657feafb6655… (all of the seat's roots in one cut). By AI agents, Wed Nov 11 2026. No macro, syntax, notation, axiom, sorry.
-/
import Derived.Test.YtpgcmjbmkjnjnaaChecked
import GoSem.Claim
import GoSem.ClaimJoined
import GoSem.ClaimMapViews
import Derived.JoinedTies
import Derived.KernelRfl
namespace Go.Proofs.Ytpgcmjbmkjnjnaa
/- THE CELL 'sum', in the pinned program and in every row, IS THE sha256 OF THE DUMP (.gsa) THAT YtpgcmjbmkjnjnaaProg.lean LOADS. Nothing in Lean hashes anything: it is a label: what it is worth is what the hold of that sum in a sandbox is worth. -/
noncomputable def Try.pinned : Pinned := { name := "ytpgcmjbmkjnjnaa", sum := "a429657feafb6655703f6c8bec57d6624c853cfa41c50c544933a50ba2823f1f", checked := Try.checked }
namespace Rows
def none {H : Type} : Left H := { results := [], args := [] }

/-- 'laws.FnFlowSend': WHATEVER THE INPUT: true; the input reads as it did. -/
def fnFlowSendSpec : ChangeSpec := { name := "fnFlowSend", fn := fun _ => fun
  | [d1, d2] => { results := [.lit (.bool true)], args := [d1, d2] }
  | _ => none }
def fnFlowSendRow : OpenClaim := { program := "ytpgcmjbmkjnjnaa", sum := "a429657feafb6655703f6c8bec57d6624c853cfa41c50c544933a50ba2823f1f", func := "loop.example/lamson/laws.FnFlowSend", spec := "fnFlowSend", unfollowed := true, recurses := true, apart := false }
def FnFlowSendSaid : Prop := fnFlowSendRow.holds Try.pinned (OpenSpec.ofChange fnFlowSendSpec)

/-- ITS FALSE NEIGHBOUR: 'it returns false'. Refute it at one input. -/
def fnFlowSendWrong : ChangeSpec := { name := "fnFlowSend", fn := fun _ => fun
  | [d1, d2] => { results := [.lit (.bool false)], args := [d1, d2] }
  | _ => none }
def FnFlowSendWrongFalsely : Prop := fnFlowSendRow.holds Try.pinned (OpenSpec.ofChange fnFlowSendWrong)

/-- 'laws.FnFlowMore': WHATEVER THE INPUT: true; the input reads as it did. -/
def fnFlowMoreSpec : ChangeSpec := { name := "fnFlowMore", fn := fun _ => fun
  | [d] => { results := [.lit (.bool true)], args := [d] }
  | _ => none }
def fnFlowMoreRow : OpenClaim := { program := "ytpgcmjbmkjnjnaa", sum := "a429657feafb6655703f6c8bec57d6624c853cfa41c50c544933a50ba2823f1f", func := "loop.example/lamson/laws.FnFlowMore", spec := "fnFlowMore", unfollowed := true, recurses := true, apart := false }
def FnFlowMoreSaid : Prop := fnFlowMoreRow.holds Try.pinned (OpenSpec.ofChange fnFlowMoreSpec)

/-- ITS FALSE NEIGHBOUR: 'it returns false'. Refute it at one input. -/
def fnFlowMoreWrong : ChangeSpec := { name := "fnFlowMore", fn := fun _ => fun
  | [d] => { results := [.lit (.bool false)], args := [d] }
  | _ => none }
def FnFlowMoreWrongFalsely : Prop := fnFlowMoreRow.holds Try.pinned (OpenSpec.ofChange fnFlowMoreWrong)

/-- 'laws.FnFlowGot': WHATEVER THE INPUT: true; the input reads as it did. -/
def fnFlowGotSpec : ChangeSpec := { name := "fnFlowGot", fn := fun _ => fun
  | [d] => { results := [.lit (.bool true)], args := [d] }
  | _ => none }
def fnFlowGotRow : OpenClaim := { program := "ytpgcmjbmkjnjnaa", sum := "a429657feafb6655703f6c8bec57d6624c853cfa41c50c544933a50ba2823f1f", func := "loop.example/lamson/laws.FnFlowGot", spec := "fnFlowGot", unfollowed := true, recurses := true, apart := false }
def FnFlowGotSaid : Prop := fnFlowGotRow.holds Try.pinned (OpenSpec.ofChange fnFlowGotSpec)

/-- ITS FALSE NEIGHBOUR: 'it returns false'. Refute it at one input. -/
def fnFlowGotWrong : ChangeSpec := { name := "fnFlowGot", fn := fun _ => fun
  | [d] => { results := [.lit (.bool false)], args := [d] }
  | _ => none }
def FnFlowGotWrongFalsely : Prop := fnFlowGotRow.holds Try.pinned (OpenSpec.ofChange fnFlowGotWrong)

/-- 'laws.FnFlowGive': WHATEVER THE INPUT: true; the input reads as it did. -/
def fnFlowGiveSpec : ChangeSpec := { name := "fnFlowGive", fn := fun _ => fun
  | [d] => { results := [.lit (.bool true)], args := [d] }
  | _ => none }
def fnFlowGiveRow : OpenClaim := { program := "ytpgcmjbmkjnjnaa", sum := "a429657feafb6655703f6c8bec57d6624c853cfa41c50c544933a50ba2823f1f", func := "loop.example/lamson/laws.FnFlowGive", spec := "fnFlowGive", unfollowed := true, recurses := true, apart := false }
def FnFlowGiveSaid : Prop := fnFlowGiveRow.holds Try.pinned (OpenSpec.ofChange fnFlowGiveSpec)

/-- ITS FALSE NEIGHBOUR: 'it returns false'. Refute it at one input. -/
def fnFlowGiveWrong : ChangeSpec := { name := "fnFlowGive", fn := fun _ => fun
  | [d] => { results := [.lit (.bool false)], args := [d] }
  | _ => none }
def FnFlowGiveWrongFalsely : Prop := fnFlowGiveRow.holds Try.pinned (OpenSpec.ofChange fnFlowGiveWrong)

/-- 'laws.FnFlowOk': WHATEVER THE INPUT: true; the input reads as it did. -/
def fnFlowOkSpec : ChangeSpec := { name := "fnFlowOk", fn := fun _ => fun
  | [d1, d2] => { results := [.lit (.bool true)], args := [d1, d2] }
  | _ => none }
def fnFlowOkRow : OpenClaim := { program := "ytpgcmjbmkjnjnaa", sum := "a429657feafb6655703f6c8bec57d6624c853cfa41c50c544933a50ba2823f1f", func := "loop.example/lamson/laws.FnFlowOk", spec := "fnFlowOk", apart := false }
def FnFlowOkSaid : Prop := fnFlowOkRow.holds Try.pinned (OpenSpec.ofChange fnFlowOkSpec)

/-- ITS FALSE NEIGHBOUR: 'it returns false'. Refute it at one input. -/
def fnFlowOkWrong : ChangeSpec := { name := "fnFlowOk", fn := fun _ => fun
  | [d1, d2] => { results := [.lit (.bool false)], args := [d1, d2] }
  | _ => none }
def FnFlowOkWrongFalsely : Prop := fnFlowOkRow.holds Try.pinned (OpenSpec.ofChange fnFlowOkWrong)

/-- 'laws.FnFlowBoth': WHATEVER THE INPUT: true; the input reads as it did. -/
def fnFlowBothSpec : ChangeSpec := { name := "fnFlowBoth", fn := fun _ => fun
  | [d1, d2] => { results := [.lit (.bool true)], args := [d1, d2] }
  | _ => none }
def fnFlowBothRow : OpenClaim := { program := "ytpgcmjbmkjnjnaa", sum := "a429657feafb6655703f6c8bec57d6624c853cfa41c50c544933a50ba2823f1f", func := "loop.example/lamson/laws.FnFlowBoth", spec := "fnFlowBoth", unfollowed := true, recurses := true, apart := false }
def FnFlowBothSaid : Prop := fnFlowBothRow.holds Try.pinned (OpenSpec.ofChange fnFlowBothSpec)

/-- ITS FALSE NEIGHBOUR: 'it returns false'. Refute it at one input. -/
def fnFlowBothWrong : ChangeSpec := { name := "fnFlowBoth", fn := fun _ => fun
  | [d1, d2] => { results := [.lit (.bool false)], args := [d1, d2] }
  | _ => none }
def FnFlowBothWrongFalsely : Prop := fnFlowBothRow.holds Try.pinned (OpenSpec.ofChange fnFlowBothWrong)

/-- 'laws.FnExactFlowOk': WHATEVER THE INPUT: true; the input reads as it did. -/
def fnExactFlowOkSpec : ChangeSpec := { name := "fnExactFlowOk", fn := fun _ => fun
  | [d] => { results := [.lit (.bool true)], args := [d] }
  | _ => none }
def fnExactFlowOkRow : OpenClaim := { program := "ytpgcmjbmkjnjnaa", sum := "a429657feafb6655703f6c8bec57d6624c853cfa41c50c544933a50ba2823f1f", func := "loop.example/lamson/laws.FnExactFlowOk", spec := "fnExactFlowOk", apart := false }
def FnExactFlowOkSaid : Prop := fnExactFlowOkRow.holds Try.pinned (OpenSpec.ofChange fnExactFlowOkSpec)

/-- ITS FALSE NEIGHBOUR: 'it returns false'. Refute it at one input. -/
def fnExactFlowOkWrong : ChangeSpec := { name := "fnExactFlowOk", fn := fun _ => fun
  | [d] => { results := [.lit (.bool false)], args := [d] }
  | _ => none }
def FnExactFlowOkWrongFalsely : Prop := fnExactFlowOkRow.holds Try.pinned (OpenSpec.ofChange fnExactFlowOkWrong)

/-- 'laws.FnExactFlowSend': WHATEVER THE INPUT: true; the input reads as it did. -/
def fnExactFlowSendSpec : ChangeSpec := { name := "fnExactFlowSend", fn := fun _ => fun
  | [d1, d2] => { results := [.lit (.bool true)], args := [d1, d2] }
  | _ => none }
def fnExactFlowSendRow : OpenClaim := { program := "ytpgcmjbmkjnjnaa", sum := "a429657feafb6655703f6c8bec57d6624c853cfa41c50c544933a50ba2823f1f", func := "loop.example/lamson/laws.FnExactFlowSend", spec := "fnExactFlowSend", unfollowed := true, recurses := true, apart := false }
def FnExactFlowSendSaid : Prop := fnExactFlowSendRow.holds Try.pinned (OpenSpec.ofChange fnExactFlowSendSpec)

/-- ITS FALSE NEIGHBOUR: 'it returns false'. Refute it at one input. -/
def fnExactFlowSendWrong : ChangeSpec := { name := "fnExactFlowSend", fn := fun _ => fun
  | [d1, d2] => { results := [.lit (.bool false)], args := [d1, d2] }
  | _ => none }
def FnExactFlowSendWrongFalsely : Prop := fnExactFlowSendRow.holds Try.pinned (OpenSpec.ofChange fnExactFlowSendWrong)

/-- 'laws.FnExactFlowMore': WHATEVER THE INPUT: true; the input reads as it did. -/
def fnExactFlowMoreSpec : ChangeSpec := { name := "fnExactFlowMore", fn := fun _ => fun
  | [d1, d2] => { results := [.lit (.bool true)], args := [d1, d2] }
  | _ => none }
def fnExactFlowMoreRow : OpenClaim := { program := "ytpgcmjbmkjnjnaa", sum := "a429657feafb6655703f6c8bec57d6624c853cfa41c50c544933a50ba2823f1f", func := "loop.example/lamson/laws.FnExactFlowMore", spec := "fnExactFlowMore", unfollowed := true, recurses := true, apart := false }
def FnExactFlowMoreSaid : Prop := fnExactFlowMoreRow.holds Try.pinned (OpenSpec.ofChange fnExactFlowMoreSpec)

/-- ITS FALSE NEIGHBOUR: 'it returns false'. Refute it at one input. -/
def fnExactFlowMoreWrong : ChangeSpec := { name := "fnExactFlowMore", fn := fun _ => fun
  | [d1, d2] => { results := [.lit (.bool false)], args := [d1, d2] }
  | _ => none }
def FnExactFlowMoreWrongFalsely : Prop := fnExactFlowMoreRow.holds Try.pinned (OpenSpec.ofChange fnExactFlowMoreWrong)

/-- 'laws.FnExactFlowGot': WHATEVER THE INPUT: true; the input reads as it did. -/
def fnExactFlowGotSpec : ChangeSpec := { name := "fnExactFlowGot", fn := fun _ => fun
  | [d1, d2] => { results := [.lit (.bool true)], args := [d1, d2] }
  | _ => none }
def fnExactFlowGotRow : OpenClaim := { program := "ytpgcmjbmkjnjnaa", sum := "a429657feafb6655703f6c8bec57d6624c853cfa41c50c544933a50ba2823f1f", func := "loop.example/lamson/laws.FnExactFlowGot", spec := "fnExactFlowGot", unfollowed := true, recurses := true, apart := false }
def FnExactFlowGotSaid : Prop := fnExactFlowGotRow.holds Try.pinned (OpenSpec.ofChange fnExactFlowGotSpec)

/-- ITS FALSE NEIGHBOUR: 'it returns false'. Refute it at one input. -/
def fnExactFlowGotWrong : ChangeSpec := { name := "fnExactFlowGot", fn := fun _ => fun
  | [d1, d2] => { results := [.lit (.bool false)], args := [d1, d2] }
  | _ => none }
def FnExactFlowGotWrongFalsely : Prop := fnExactFlowGotRow.holds Try.pinned (OpenSpec.ofChange fnExactFlowGotWrong)

/-- 'laws.FnExactFlowGive': WHATEVER THE INPUT: true; the input reads as it did. -/
def fnExactFlowGiveSpec : ChangeSpec := { name := "fnExactFlowGive", fn := fun _ => fun
  | [d1, d2] => { results := [.lit (.bool true)], args := [d1, d2] }
  | _ => none }
def fnExactFlowGiveRow : OpenClaim := { program := "ytpgcmjbmkjnjnaa", sum := "a429657feafb6655703f6c8bec57d6624c853cfa41c50c544933a50ba2823f1f", func := "loop.example/lamson/laws.FnExactFlowGive", spec := "fnExactFlowGive", unfollowed := true, recurses := true, apart := false }
def FnExactFlowGiveSaid : Prop := fnExactFlowGiveRow.holds Try.pinned (OpenSpec.ofChange fnExactFlowGiveSpec)

/-- ITS FALSE NEIGHBOUR: 'it returns false'. Refute it at one input. -/
def fnExactFlowGiveWrong : ChangeSpec := { name := "fnExactFlowGive", fn := fun _ => fun
  | [d1, d2] => { results := [.lit (.bool false)], args := [d1, d2] }
  | _ => none }
def FnExactFlowGiveWrongFalsely : Prop := fnExactFlowGiveRow.holds Try.pinned (OpenSpec.ofChange fnExactFlowGiveWrong)

/- THE SECOND FORM. 'bulk': how many values and letters a reading holds, each counted each time it is reached (what is shared counts as often as it is met; a slice's spare places count too). A statement '..UptoSaid' is the law's where the arguments, and the package variables that the reading takes, are together of bulk at most 1048576: NARROWER than '..Said'. Prove '..Said' where nothing that the law and all that it calls make is longer than what came in: it says more and counts as full. Else prove '..UptoSaid'. A law counts once. -/
mutual
def uptoBulk {H : Type} : DataW H → Nat
  | .lit (.string bytes) => bytes.length + 1
  | .lit _ => 1
  | .nil => 1
  | .ptr d => uptoBulk d + 1
  | .slice elems spare => uptoBulkAll elems + uptoBulkAll spare + 1
  | .agg parts => uptoBulkAll parts + 1
  | .iface _ d => uptoBulk d + 1
  | .map entries => uptoBulkEntries entries + 1
  | .held _ => 1
def uptoBulkAll {H : Type} : List (DataW H) → Nat
  | [] => 0
  | d :: r => uptoBulk d + uptoBulkAll r
def uptoBulkEntries {H : Type} : List (Lit × DataW H) → Nat
  | [] => 0
  | x :: r => uptoBulkEntry x + uptoBulkEntries r
def uptoBulkEntry {H : Type} : Lit × DataW H → Nat
  | (.string bytes, d) => bytes.length + uptoBulk d + 1
  | (_, d) => uptoBulk d + 1
 end
def uptoSmall : (H : Type) → List (DataW H) → Bool := fun _ ds => decide (uptoBulkAll ds ≤ 1048576)
def OpenSpec.upto (s : _root_.Go.ChangeSpec) : _root_.Go.OpenSpec := { _root_.Go.OpenSpec.ofChange s with cond := some uptoSmall }

/-- 'laws.FnFlowSend', WHERE WHAT IT READS IS OF BULK AT MOST 1048576: true; the input reads as it did. -/
def fnFlowSendUptoRow : OpenClaim := { program := "ytpgcmjbmkjnjnaa", sum := "a429657feafb6655703f6c8bec57d6624c853cfa41c50c544933a50ba2823f1f", func := "loop.example/lamson/laws.FnFlowSend", spec := "fnFlowSend", unfollowed := true, recurses := true, apart := false, narrowed := true }
def FnFlowSendUptoSaid : Prop := fnFlowSendUptoRow.holds Try.pinned (OpenSpec.upto fnFlowSendSpec)

/-- 'laws.FnFlowMore', WHERE WHAT IT READS IS OF BULK AT MOST 1048576: true; the input reads as it did. -/
def fnFlowMoreUptoRow : OpenClaim := { program := "ytpgcmjbmkjnjnaa", sum := "a429657feafb6655703f6c8bec57d6624c853cfa41c50c544933a50ba2823f1f", func := "loop.example/lamson/laws.FnFlowMore", spec := "fnFlowMore", unfollowed := true, recurses := true, apart := false, narrowed := true }
def FnFlowMoreUptoSaid : Prop := fnFlowMoreUptoRow.holds Try.pinned (OpenSpec.upto fnFlowMoreSpec)

/-- 'laws.FnFlowGot', WHERE WHAT IT READS IS OF BULK AT MOST 1048576: true; the input reads as it did. -/
def fnFlowGotUptoRow : OpenClaim := { program := "ytpgcmjbmkjnjnaa", sum := "a429657feafb6655703f6c8bec57d6624c853cfa41c50c544933a50ba2823f1f", func := "loop.example/lamson/laws.FnFlowGot", spec := "fnFlowGot", unfollowed := true, recurses := true, apart := false, narrowed := true }
def FnFlowGotUptoSaid : Prop := fnFlowGotUptoRow.holds Try.pinned (OpenSpec.upto fnFlowGotSpec)

/-- 'laws.FnFlowGive', WHERE WHAT IT READS IS OF BULK AT MOST 1048576: true; the input reads as it did. -/
def fnFlowGiveUptoRow : OpenClaim := { program := "ytpgcmjbmkjnjnaa", sum := "a429657feafb6655703f6c8bec57d6624c853cfa41c50c544933a50ba2823f1f", func := "loop.example/lamson/laws.FnFlowGive", spec := "fnFlowGive", unfollowed := true, recurses := true, apart := false, narrowed := true }
def FnFlowGiveUptoSaid : Prop := fnFlowGiveUptoRow.holds Try.pinned (OpenSpec.upto fnFlowGiveSpec)

/-- 'laws.FnFlowOk', WHERE WHAT IT READS IS OF BULK AT MOST 1048576: true; the input reads as it did. -/
def fnFlowOkUptoRow : OpenClaim := { program := "ytpgcmjbmkjnjnaa", sum := "a429657feafb6655703f6c8bec57d6624c853cfa41c50c544933a50ba2823f1f", func := "loop.example/lamson/laws.FnFlowOk", spec := "fnFlowOk", apart := false, narrowed := true }
def FnFlowOkUptoSaid : Prop := fnFlowOkUptoRow.holds Try.pinned (OpenSpec.upto fnFlowOkSpec)

/-- 'laws.FnFlowBoth', WHERE WHAT IT READS IS OF BULK AT MOST 1048576: true; the input reads as it did. -/
def fnFlowBothUptoRow : OpenClaim := { program := "ytpgcmjbmkjnjnaa", sum := "a429657feafb6655703f6c8bec57d6624c853cfa41c50c544933a50ba2823f1f", func := "loop.example/lamson/laws.FnFlowBoth", spec := "fnFlowBoth", unfollowed := true, recurses := true, apart := false, narrowed := true }
def FnFlowBothUptoSaid : Prop := fnFlowBothUptoRow.holds Try.pinned (OpenSpec.upto fnFlowBothSpec)

/-- 'laws.FnExactFlowOk', WHERE WHAT IT READS IS OF BULK AT MOST 1048576: true; the input reads as it did. -/
def fnExactFlowOkUptoRow : OpenClaim := { program := "ytpgcmjbmkjnjnaa", sum := "a429657feafb6655703f6c8bec57d6624c853cfa41c50c544933a50ba2823f1f", func := "loop.example/lamson/laws.FnExactFlowOk", spec := "fnExactFlowOk", apart := false, narrowed := true }
def FnExactFlowOkUptoSaid : Prop := fnExactFlowOkUptoRow.holds Try.pinned (OpenSpec.upto fnExactFlowOkSpec)

/-- 'laws.FnExactFlowSend', WHERE WHAT IT READS IS OF BULK AT MOST 1048576: true; the input reads as it did. -/
def fnExactFlowSendUptoRow : OpenClaim := { program := "ytpgcmjbmkjnjnaa", sum := "a429657feafb6655703f6c8bec57d6624c853cfa41c50c544933a50ba2823f1f", func := "loop.example/lamson/laws.FnExactFlowSend", spec := "fnExactFlowSend", unfollowed := true, recurses := true, apart := false, narrowed := true }
def FnExactFlowSendUptoSaid : Prop := fnExactFlowSendUptoRow.holds Try.pinned (OpenSpec.upto fnExactFlowSendSpec)

/-- 'laws.FnExactFlowMore', WHERE WHAT IT READS IS OF BULK AT MOST 1048576: true; the input reads as it did. -/
def fnExactFlowMoreUptoRow : OpenClaim := { program := "ytpgcmjbmkjnjnaa", sum := "a429657feafb6655703f6c8bec57d6624c853cfa41c50c544933a50ba2823f1f", func := "loop.example/lamson/laws.FnExactFlowMore", spec := "fnExactFlowMore", unfollowed := true, recurses := true, apart := false, narrowed := true }
def FnExactFlowMoreUptoSaid : Prop := fnExactFlowMoreUptoRow.holds Try.pinned (OpenSpec.upto fnExactFlowMoreSpec)

/-- 'laws.FnExactFlowGot', WHERE WHAT IT READS IS OF BULK AT MOST 1048576: true; the input reads as it did. -/
def fnExactFlowGotUptoRow : OpenClaim := { program := "ytpgcmjbmkjnjnaa", sum := "a429657feafb6655703f6c8bec57d6624c853cfa41c50c544933a50ba2823f1f", func := "loop.example/lamson/laws.FnExactFlowGot", spec := "fnExactFlowGot", unfollowed := true, recurses := true, apart := false, narrowed := true }
def FnExactFlowGotUptoSaid : Prop := fnExactFlowGotUptoRow.holds Try.pinned (OpenSpec.upto fnExactFlowGotSpec)

/-- 'laws.FnExactFlowGive', WHERE WHAT IT READS IS OF BULK AT MOST 1048576: true; the input reads as it did. -/
def fnExactFlowGiveUptoRow : OpenClaim := { program := "ytpgcmjbmkjnjnaa", sum := "a429657feafb6655703f6c8bec57d6624c853cfa41c50c544933a50ba2823f1f", func := "loop.example/lamson/laws.FnExactFlowGive", spec := "fnExactFlowGive", unfollowed := true, recurses := true, apart := false, narrowed := true }
def FnExactFlowGiveUptoSaid : Prop := fnExactFlowGiveUptoRow.holds Try.pinned (OpenSpec.upto fnExactFlowGiveSpec)

end Rows
end Go.Proofs.Ytpgcmjbmkjnjnaa
