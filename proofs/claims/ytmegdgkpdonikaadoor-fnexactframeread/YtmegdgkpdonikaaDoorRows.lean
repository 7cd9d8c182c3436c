/-
  NARROWER THAN 'FOR EVERY INPUT', by the rows' own cells (each row's printed sentence says how): FnFrameBack: ifaces, laid · FnFrameStrict: ifaces, laid · FnFrameLack: ifaces, laid · FnFrameTwo: ifaces, laid · FnFrameBad: ifaces, laid · FnExactFrameRead: ifaces, laid.
  DERIVED. THE GIVEN ROWS OF THIS SEAT. 6 by the template 'for every input the law returns true; each argument reads behind the call as it read before'; 0 by the template 'total and deterministic' (their statements: YtmegdgkpdonikaaDoorTotals.lean).
  GIVEN WITH THE SEED: the statements are not yours to turn. If you find one false, say at which input.
  Laid BY PROGRAM, IN A SANDBOX (cutbox-rows.mjs): the forced cells as the released guide's own fill.sh prints them over the translation 9584505aba4023aa… (all of the seat's roots in one cut). By AI agents, Wed Nov 11 2026. No macro, syntax, notation, axiom, sorry.
-/
import Derived.Test.YtmegdgkpdonikaaDoorChecked
import GoSem.Claim
import GoSem.ClaimJoined
import GoSem.ClaimMapViews
import Derived.JoinedTies
import Derived.KernelRfl
namespace Go.Proofs.YtmegdgkpdonikaaDoor
/- THE CELL 'sum', in the pinned program and in every row, IS THE sha256 OF THE DUMP (.gsa) THAT YtmegdgkpdonikaaDoorProg.lean LOADS. Nothing in Lean hashes anything: it is a label: what it is worth is what the hold of that sum in a sandbox is worth. -/
noncomputable def Tryd.pinned : Pinned := { name := "ytmegdgkpdonikaadoor", sum := "9584505aba4023aaed16a46cb704ff4c7f21442a6bd80298853f1ed9b3ae7b24", checked := Tryd.checked }
namespace Rows
def none {H : Type} : Left H := { results := [], args := [] }

/- WHAT THE LISTED PACKAGE-LEVEL VARIABLES READ AS WHEN THE CALL BEGINS. Each datum BY PROGRAM (the guide's laid-datum.mjs) off the statement by which the dump's own 'gosem.cut.vars' lays the variable. In a bare row this is a premise. The card (YtmegdgkpdonikaaDoorCards.lean) ties it to the program's text. -/
def laid_errors_errorType {H : Type} : DataW H := .iface "internal/reflectlite.rtype" (.agg [.ptr (.lit (.string [101, 114, 114, 111, 114]))])
def laid_loop_example_lamson_impl_errFrameCut {H : Type} : DataW H := .iface "*errors.errorString" (.ptr (.agg [.lit (.string [98, 121, 116, 101, 115, 32, 111, 102, 32, 97, 32, 102, 114, 97, 109, 101, 32, 108, 97, 99, 107])]))

/-- 'laws.FnFrameBack': WHATEVER THE INPUT: true; the input reads as it did. -/
def fnFrameBackSpec : ChangeSpec := { name := "fnFrameBack", vars := ["loop.example/lamson/impl.errFrameCut"], fn := fun _ => fun
  | [d1, d2, g1] => { results := [.lit (.bool true)], args := [d1, d2], vars := [g1] }
  | _ => none }
def fnFrameBackRow : OpenClaim := { program := "ytmegdgkpdonikaadoor", sum := "9584505aba4023aaed16a46cb704ff4c7f21442a6bd80298853f1ed9b3ae7b24", func := "loop.example/lamson/laws.FnFrameBack", spec := "fnFrameBack", inPlace := ["internal/reflectlite.ValueOf", "(internal/reflectlite.Value).Type", "(internal/reflectlite.Value).IsNil", "internal/reflectlite.TypeOf", "(internal/reflectlite.Value).Elem", "(internal/reflectlite.Value).Set"], unfollowed := true, recurses := true, named := ["loop.example/lamson/impl.errFrameCut", "errors.errorType"], ifaces := true, apart := false, laid := [("errors.errorType", laid_errors_errorType), ("loop.example/lamson/impl.errFrameCut", laid_loop_example_lamson_impl_errFrameCut)] }
def FnFrameBackSaid : Prop := fnFrameBackRow.holds Tryd.pinned (OpenSpec.ofChange fnFrameBackSpec)

/-- ITS FALSE NEIGHBOUR: 'it returns false'. Refute it at one input. -/
def fnFrameBackWrong : ChangeSpec := { name := "fnFrameBack", vars := ["loop.example/lamson/impl.errFrameCut"], fn := fun _ => fun
  | [d1, d2, g1] => { results := [.lit (.bool false)], args := [d1, d2], vars := [g1] }
  | _ => none }
def FnFrameBackWrongFalsely : Prop := fnFrameBackRow.holds Tryd.pinned (OpenSpec.ofChange fnFrameBackWrong)

/-- 'laws.FnFrameStrict': WHATEVER THE INPUT: true; the input reads as it did. -/
def fnFrameStrictSpec : ChangeSpec := { name := "fnFrameStrict", vars := ["loop.example/lamson/impl.errFrameCut"], fn := fun _ => fun
  | [d, g1] => { results := [.lit (.bool true)], args := [d], vars := [g1] }
  | _ => none }
def fnFrameStrictRow : OpenClaim := { program := "ytmegdgkpdonikaadoor", sum := "9584505aba4023aaed16a46cb704ff4c7f21442a6bd80298853f1ed9b3ae7b24", func := "loop.example/lamson/laws.FnFrameStrict", spec := "fnFrameStrict", inPlace := ["internal/reflectlite.ValueOf", "(internal/reflectlite.Value).Type", "(internal/reflectlite.Value).IsNil", "internal/reflectlite.TypeOf", "(internal/reflectlite.Value).Elem", "(internal/reflectlite.Value).Set"], unfollowed := true, recurses := true, named := ["loop.example/lamson/impl.errFrameCut", "errors.errorType"], ifaces := true, apart := false, laid := [("errors.errorType", laid_errors_errorType), ("loop.example/lamson/impl.errFrameCut", laid_loop_example_lamson_impl_errFrameCut)] }
def FnFrameStrictSaid : Prop := fnFrameStrictRow.holds Tryd.pinned (OpenSpec.ofChange fnFrameStrictSpec)

/-- ITS FALSE NEIGHBOUR: 'it returns false'. Refute it at one input. -/
def fnFrameStrictWrong : ChangeSpec := { name := "fnFrameStrict", vars := ["loop.example/lamson/impl.errFrameCut"], fn := fun _ => fun
  | [d, g1] => { results := [.lit (.bool false)], args := [d], vars := [g1] }
  | _ => none }
def FnFrameStrictWrongFalsely : Prop := fnFrameStrictRow.holds Tryd.pinned (OpenSpec.ofChange fnFrameStrictWrong)

/-- 'laws.FnFrameLack': WHATEVER THE INPUT: true; the input reads as it did. -/
def fnFrameLackSpec : ChangeSpec := { name := "fnFrameLack", vars := ["loop.example/lamson/impl.errFrameCut"], fn := fun _ => fun
  | [d1, d2, g1] => { results := [.lit (.bool true)], args := [d1, d2], vars := [g1] }
  | _ => none }
def fnFrameLackRow : OpenClaim := { program := "ytmegdgkpdonikaadoor", sum := "9584505aba4023aaed16a46cb704ff4c7f21442a6bd80298853f1ed9b3ae7b24", func := "loop.example/lamson/laws.FnFrameLack", spec := "fnFrameLack", inPlace := ["internal/reflectlite.ValueOf", "(internal/reflectlite.Value).Type", "(internal/reflectlite.Value).IsNil", "internal/reflectlite.TypeOf", "(internal/reflectlite.Value).Elem", "(internal/reflectlite.Value).Set"], unfollowed := true, recurses := true, named := ["loop.example/lamson/impl.errFrameCut", "errors.errorType"], ifaces := true, apart := false, laid := [("errors.errorType", laid_errors_errorType), ("loop.example/lamson/impl.errFrameCut", laid_loop_example_lamson_impl_errFrameCut)] }
def FnFrameLackSaid : Prop := fnFrameLackRow.holds Tryd.pinned (OpenSpec.ofChange fnFrameLackSpec)

/-- ITS FALSE NEIGHBOUR: 'it returns false'. Refute it at one input. -/
def fnFrameLackWrong : ChangeSpec := { name := "fnFrameLack", vars := ["loop.example/lamson/impl.errFrameCut"], fn := fun _ => fun
  | [d1, d2, g1] => { results := [.lit (.bool false)], args := [d1, d2], vars := [g1] }
  | _ => none }
def FnFrameLackWrongFalsely : Prop := fnFrameLackRow.holds Tryd.pinned (OpenSpec.ofChange fnFrameLackWrong)

/-- 'laws.FnFrameTwo': WHATEVER THE INPUT: true; the input reads as it did. -/
def fnFrameTwoSpec : ChangeSpec := { name := "fnFrameTwo", vars := ["loop.example/lamson/impl.errFrameCut"], fn := fun _ => fun
  | [d1, d2, g1] => { results := [.lit (.bool true)], args := [d1, d2], vars := [g1] }
  | _ => none }
def fnFrameTwoRow : OpenClaim := { program := "ytmegdgkpdonikaadoor", sum := "9584505aba4023aaed16a46cb704ff4c7f21442a6bd80298853f1ed9b3ae7b24", func := "loop.example/lamson/laws.FnFrameTwo", spec := "fnFrameTwo", inPlace := ["internal/reflectlite.ValueOf", "(internal/reflectlite.Value).Type", "(internal/reflectlite.Value).IsNil", "internal/reflectlite.TypeOf", "(internal/reflectlite.Value).Elem", "(internal/reflectlite.Value).Set"], unfollowed := true, recurses := true, named := ["loop.example/lamson/impl.errFrameCut", "errors.errorType"], ifaces := true, apart := false, laid := [("errors.errorType", laid_errors_errorType), ("loop.example/lamson/impl.errFrameCut", laid_loop_example_lamson_impl_errFrameCut)] }
def FnFrameTwoSaid : Prop := fnFrameTwoRow.holds Tryd.pinned (OpenSpec.ofChange fnFrameTwoSpec)

/-- ITS FALSE NEIGHBOUR: 'it returns false'. Refute it at one input. -/
def fnFrameTwoWrong : ChangeSpec := { name := "fnFrameTwo", vars := ["loop.example/lamson/impl.errFrameCut"], fn := fun _ => fun
  | [d1, d2, g1] => { results := [.lit (.bool false)], args := [d1, d2], vars := [g1] }
  | _ => none }
def FnFrameTwoWrongFalsely : Prop := fnFrameTwoRow.holds Tryd.pinned (OpenSpec.ofChange fnFrameTwoWrong)

/-- 'laws.FnFrameBad': WHATEVER THE INPUT: true; the input reads as it did. -/
def fnFrameBadSpec : ChangeSpec := { name := "fnFrameBad", vars := ["loop.example/lamson/impl.errFrameCut"], fn := fun _ => fun
  | [d1, d2, g1] => { results := [.lit (.bool true)], args := [d1, d2], vars := [g1] }
  | _ => none }
def fnFrameBadRow : OpenClaim := { program := "ytmegdgkpdonikaadoor", sum := "9584505aba4023aaed16a46cb704ff4c7f21442a6bd80298853f1ed9b3ae7b24", func := "loop.example/lamson/laws.FnFrameBad", spec := "fnFrameBad", inPlace := ["internal/reflectlite.ValueOf", "(internal/reflectlite.Value).Type", "(internal/reflectlite.Value).IsNil", "internal/reflectlite.TypeOf", "(internal/reflectlite.Value).Elem", "(internal/reflectlite.Value).Set"], unfollowed := true, recurses := true, named := ["loop.example/lamson/impl.errFrameCut", "errors.errorType"], ifaces := true, apart := false, laid := [("errors.errorType", laid_errors_errorType), ("loop.example/lamson/impl.errFrameCut", laid_loop_example_lamson_impl_errFrameCut)] }
def FnFrameBadSaid : Prop := fnFrameBadRow.holds Tryd.pinned (OpenSpec.ofChange fnFrameBadSpec)

/-- ITS FALSE NEIGHBOUR: 'it returns false'. Refute it at one input. -/
def fnFrameBadWrong : ChangeSpec := { name := "fnFrameBad", vars := ["loop.example/lamson/impl.errFrameCut"], fn := fun _ => fun
  | [d1, d2, g1] => { results := [.lit (.bool false)], args := [d1, d2], vars := [g1] }
  | _ => none }
def FnFrameBadWrongFalsely : Prop := fnFrameBadRow.holds Tryd.pinned (OpenSpec.ofChange fnFrameBadWrong)

/-- 'laws.FnExactFrameRead': WHATEVER THE INPUT: true; the input reads as it did. -/
def fnExactFrameReadSpec : ChangeSpec := { name := "fnExactFrameRead", vars := ["loop.example/lamson/impl.errFrameCut"], fn := fun _ => fun
  | [d, g1] => { results := [.lit (.bool true)], args := [d], vars := [g1] }
  | _ => none }
def fnExactFrameReadRow : OpenClaim := { program := "ytmegdgkpdonikaadoor", sum := "9584505aba4023aaed16a46cb704ff4c7f21442a6bd80298853f1ed9b3ae7b24", func := "loop.example/lamson/laws.FnExactFrameRead", spec := "fnExactFrameRead", inPlace := ["internal/reflectlite.ValueOf", "(internal/reflectlite.Value).Type", "(internal/reflectlite.Value).IsNil", "internal/reflectlite.TypeOf", "(internal/reflectlite.Value).Elem", "(internal/reflectlite.Value).Set"], unfollowed := true, recurses := true, named := ["loop.example/lamson/impl.errFrameCut", "errors.errorType"], ifaces := true, apart := false, laid := [("errors.errorType", laid_errors_errorType), ("loop.example/lamson/impl.errFrameCut", laid_loop_example_lamson_impl_errFrameCut)] }
def FnExactFrameReadSaid : Prop := fnExactFrameReadRow.holds Tryd.pinned (OpenSpec.ofChange fnExactFrameReadSpec)

/-- ITS FALSE NEIGHBOUR: 'it returns false'. Refute it at one input. -/
def fnExactFrameReadWrong : ChangeSpec := { name := "fnExactFrameRead", vars := ["loop.example/lamson/impl.errFrameCut"], fn := fun _ => fun
  | [d, g1] => { results := [.lit (.bool false)], args := [d], vars := [g1] }
  | _ => none }
def FnExactFrameReadWrongFalsely : Prop := fnExactFrameReadRow.holds Tryd.pinned (OpenSpec.ofChange fnExactFrameReadWrong)

/- THE SECOND FORM. 'bulk': how many values and letters a reading holds, each counted each time it is reached (what is shared counts as often as it is met; a slice's spare places count too). A statement '..UptoSaid' is the law's where the arguments, and the package variables that the reading takes, are together of bulk at most 1048576: NARROWER than '..Said'. Prove '..Said' where nothing that the law and all that it calls make is longer than what came in: it says more and counts as full. Else prove '..UptoSaid'. A law counts once. -/
mutual
def uptoBulk {H : Type} : DataW H → Nat
  | .lit (.string bytes) => bytes.length + 1
  | .lit _ => 1
  | .nil => 1
  | .ptr d => uptoBulk d + 1
  | .slice elems spare => uptoBulkAll elems + uptoBulkAll spare + 1
  | .agg parts => uptoBulkAll parts + 1
  | .iface _ d => uptoBulk d + 1
  | .map entries => uptoBulkEntries entries + 1
  | .held _ => 1
def uptoBulkAll {H : Type} : List (DataW H) → Nat
  | [] => 0
  | d :: r => uptoBulk d + uptoBulkAll r
def uptoBulkEntries {H : Type} : List (Lit × DataW H) → Nat
  | [] => 0
  | x :: r => uptoBulkEntry x + uptoBulkEntries r
def uptoBulkEntry {H : Type} : Lit × DataW H → Nat
  | (.string bytes, d) => bytes.length + uptoBulk d + 1
  | (_, d) => uptoBulk d + 1
 end
def uptoSmall : (H : Type) → List (DataW H) → Bool := fun _ ds => decide (uptoBulkAll ds ≤ 1048576)
def OpenSpec.upto (s : _root_.Go.ChangeSpec) : _root_.Go.OpenSpec := { _root_.Go.OpenSpec.ofChange s with cond := some uptoSmall }

/-- 'laws.FnFrameBack', WHERE WHAT IT READS IS OF BULK AT MOST 1048576: true; the input reads as it did. -/
def fnFrameBackUptoRow : OpenClaim := { program := "ytmegdgkpdonikaadoor", sum := "9584505aba4023aaed16a46cb704ff4c7f21442a6bd80298853f1ed9b3ae7b24", func := "loop.example/lamson/laws.FnFrameBack", spec := "fnFrameBack", inPlace := ["internal/reflectlite.ValueOf", "(internal/reflectlite.Value).Type", "(internal/reflectlite.Value).IsNil", "internal/reflectlite.TypeOf", "(internal/reflectlite.Value).Elem", "(internal/reflectlite.Value).Set"], unfollowed := true, recurses := true, named := ["loop.example/lamson/impl.errFrameCut", "errors.errorType"], ifaces := true, apart := false, laid := [("errors.errorType", laid_errors_errorType), ("loop.example/lamson/impl.errFrameCut", laid_loop_example_lamson_impl_errFrameCut)], narrowed := true }
def FnFrameBackUptoSaid : Prop := fnFrameBackUptoRow.holds Tryd.pinned (OpenSpec.upto fnFrameBackSpec)

/-- 'laws.FnFrameStrict', WHERE WHAT IT READS IS OF BULK AT MOST 1048576: true; the input reads as it did. -/
def fnFrameStrictUptoRow : OpenClaim := { program := "ytmegdgkpdonikaadoor", sum := "9584505aba4023aaed16a46cb704ff4c7f21442a6bd80298853f1ed9b3ae7b24", func := "loop.example/lamson/laws.FnFrameStrict", spec := "fnFrameStrict", inPlace := ["internal/reflectlite.ValueOf", "(internal/reflectlite.Value).Type", "(internal/reflectlite.Value).IsNil", "internal/reflectlite.TypeOf", "(internal/reflectlite.Value).Elem", "(internal/reflectlite.Value).Set"], unfollowed := true, recurses := true, named := ["loop.example/lamson/impl.errFrameCut", "errors.errorType"], ifaces := true, apart := false, laid := [("errors.errorType", laid_errors_errorType), ("loop.example/lamson/impl.errFrameCut", laid_loop_example_lamson_impl_errFrameCut)], narrowed := true }
def FnFrameStrictUptoSaid : Prop := fnFrameStrictUptoRow.holds Tryd.pinned (OpenSpec.upto fnFrameStrictSpec)

/-- 'laws.FnFrameLack', WHERE WHAT IT READS IS OF BULK AT MOST 1048576: true; the input reads as it did. -/
def fnFrameLackUptoRow : OpenClaim := { program := "ytmegdgkpdonikaadoor", sum := "9584505aba4023aaed16a46cb704ff4c7f21442a6bd80298853f1ed9b3ae7b24", func := "loop.example/lamson/laws.FnFrameLack", spec := "fnFrameLack", inPlace := ["internal/reflectlite.ValueOf", "(internal/reflectlite.Value).Type", "(internal/reflectlite.Value).IsNil", "internal/reflectlite.TypeOf", "(internal/reflectlite.Value).Elem", "(internal/reflectlite.Value).Set"], unfollowed := true, recurses := true, named := ["loop.example/lamson/impl.errFrameCut", "errors.errorType"], ifaces := true, apart := false, laid := [("errors.errorType", laid_errors_errorType), ("loop.example/lamson/impl.errFrameCut", laid_loop_example_lamson_impl_errFrameCut)], narrowed := true }
def FnFrameLackUptoSaid : Prop := fnFrameLackUptoRow.holds Tryd.pinned (OpenSpec.upto fnFrameLackSpec)

/-- 'laws.FnFrameTwo', WHERE WHAT IT READS IS OF BULK AT MOST 1048576: true; the input reads as it did. -/
def fnFrameTwoUptoRow : OpenClaim := { program := "ytmegdgkpdonikaadoor", sum := "9584505aba4023aaed16a46cb704ff4c7f21442a6bd80298853f1ed9b3ae7b24", func := "loop.example/lamson/laws.FnFrameTwo", spec := "fnFrameTwo", inPlace := ["internal/reflectlite.ValueOf", "(internal/reflectlite.Value).Type", "(internal/reflectlite.Value).IsNil", "internal/reflectlite.TypeOf", "(internal/reflectlite.Value).Elem", "(internal/reflectlite.Value).Set"], unfollowed := true, recurses := true, named := ["loop.example/lamson/impl.errFrameCut", "errors.errorType"], ifaces := true, apart := false, laid := [("errors.errorType", laid_errors_errorType), ("loop.example/lamson/impl.errFrameCut", laid_loop_example_lamson_impl_errFrameCut)], narrowed := true }
def FnFrameTwoUptoSaid : Prop := fnFrameTwoUptoRow.holds Tryd.pinned (OpenSpec.upto fnFrameTwoSpec)

/-- 'laws.FnFrameBad', WHERE WHAT IT READS IS OF BULK AT MOST 1048576: true; the input reads as it did. -/
def fnFrameBadUptoRow : OpenClaim := { program := "ytmegdgkpdonikaadoor", sum := "9584505aba4023aaed16a46cb704ff4c7f21442a6bd80298853f1ed9b3ae7b24", func := "loop.example/lamson/laws.FnFrameBad", spec := "fnFrameBad", inPlace := ["internal/reflectlite.ValueOf", "(internal/reflectlite.Value).Type", "(internal/reflectlite.Value).IsNil", "internal/reflectlite.TypeOf", "(internal/reflectlite.Value).Elem", "(internal/reflectlite.Value).Set"], unfollowed := true, recurses := true, named := ["loop.example/lamson/impl.errFrameCut", "errors.errorType"], ifaces := true, apart := false, laid := [("errors.errorType", laid_errors_errorType), ("loop.example/lamson/impl.errFrameCut", laid_loop_example_lamson_impl_errFrameCut)], narrowed := true }
def FnFrameBadUptoSaid : Prop := fnFrameBadUptoRow.holds Tryd.pinned (OpenSpec.upto fnFrameBadSpec)

/-- 'laws.FnExactFrameRead', WHERE WHAT IT READS IS OF BULK AT MOST 1048576: true; the input reads as it did. -/
def fnExactFrameReadUptoRow : OpenClaim := { program := "ytmegdgkpdonikaadoor", sum := "9584505aba4023aaed16a46cb704ff4c7f21442a6bd80298853f1ed9b3ae7b24", func := "loop.example/lamson/laws.FnExactFrameRead", spec := "fnExactFrameRead", inPlace := ["internal/reflectlite.ValueOf", "(internal/reflectlite.Value).Type", "(internal/reflectlite.Value).IsNil", "internal/reflectlite.TypeOf", "(internal/reflectlite.Value).Elem", "(internal/reflectlite.Value).Set"], unfollowed := true, recurses := true, named := ["loop.example/lamson/impl.errFrameCut", "errors.errorType"], ifaces := true, apart := false, laid := [("errors.errorType", laid_errors_errorType), ("loop.example/lamson/impl.errFrameCut", laid_loop_example_lamson_impl_errFrameCut)], narrowed := true }
def FnExactFrameReadUptoSaid : Prop := fnExactFrameReadUptoRow.holds Tryd.pinned (OpenSpec.upto fnExactFrameReadSpec)

end Rows
end Go.Proofs.YtmegdgkpdonikaaDoor
