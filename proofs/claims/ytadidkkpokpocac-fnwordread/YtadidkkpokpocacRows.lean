/-
  No cell of these rows narrows 'for every input' (looked for: loops, veiled, ifaces, maps, wideKeys, modest, calm, conditions, laid).
  DERIVED. THE GIVEN ROWS OF THIS SEAT. 6 by the template 'for every input the law returns true; each argument reads behind the call as it read before'; 0 by the template 'total and deterministic' (their statements: YtadidkkpokpocacTotals.lean).
  GIVEN WITH THE SEED: the statements are not yours to turn. If you find one false, say at which input.
  Laid BY PROGRAM, IN A SANDBOX (cutbox-rows.mjs): the forced cells as the released guide's own fill.sh prints them over the translation fb03c37b6c836566… (all of the seat's roots in one cut). By AI agents, Wed Nov 11 2026. No macro, syntax, notation, axiom, sorry.
-/
import Derived.Test.YtadidkkpokpocacChecked
import GoSem.Claim
import GoSem.ClaimJoined
import GoSem.ClaimMapViews
import Derived.JoinedTies
import Derived.KernelRfl
namespace Go.Proofs.Ytadidkkpokpocac
/- THE CELL 'sum', in the pinned program and in every row, IS THE sha256 OF THE DUMP (.gsa) THAT YtadidkkpokpocacProg.lean LOADS. Nothing in Lean hashes anything: it is a label: what it is worth is what the hold of that sum in a sandbox is worth. -/
noncomputable def Try.pinned : Pinned := { name := "ytadidkkpokpocac", sum := "fb03c37b6c8365668120203683a218c65e34c731e110417e668b0fa9ac1b4a2e", checked := Try.checked }
namespace Rows
def none {H : Type} : Left H := { results := [], args := [] }

/-- 'laws.FnWordBack': WHATEVER THE INPUT: true; the input reads as it did. -/
def fnWordBackSpec : ChangeSpec := { name := "fnWordBack", fn := fun _ => fun
  | [d1, d2] => { results := [.lit (.bool true)], args := [d1, d2] }
  | _ => none }
def fnWordBackRow : OpenClaim := { program := "ytadidkkpokpocac", sum := "fb03c37b6c8365668120203683a218c65e34c731e110417e668b0fa9ac1b4a2e", func := "loop.example/lamson/laws.FnWordBack", spec := "fnWordBack", unfollowed := true, recurses := true, apart := false }
def FnWordBackSaid : Prop := fnWordBackRow.holds Try.pinned (OpenSpec.ofChange fnWordBackSpec)

/-- ITS FALSE NEIGHBOUR: 'it returns false'. Refute it at one input. -/
def fnWordBackWrong : ChangeSpec := { name := "fnWordBack", fn := fun _ => fun
  | [d1, d2] => { results := [.lit (.bool false)], args := [d1, d2] }
  | _ => none }
def FnWordBackWrongFalsely : Prop := fnWordBackRow.holds Try.pinned (OpenSpec.ofChange fnWordBackWrong)

/-- 'laws.FnWordShort': WHATEVER THE INPUT: true; the input reads as it did. -/
def fnWordShortSpec : ChangeSpec := { name := "fnWordShort", fn := fun _ => fun
  | [d] => { results := [.lit (.bool true)], args := [d] }
  | _ => none }
def fnWordShortRow : OpenClaim := { program := "ytadidkkpokpocac", sum := "fb03c37b6c8365668120203683a218c65e34c731e110417e668b0fa9ac1b4a2e", func := "loop.example/lamson/laws.FnWordShort", spec := "fnWordShort", unfollowed := true, recurses := true, apart := false }
def FnWordShortSaid : Prop := fnWordShortRow.holds Try.pinned (OpenSpec.ofChange fnWordShortSpec)

/-- ITS FALSE NEIGHBOUR: 'it returns false'. Refute it at one input. -/
def fnWordShortWrong : ChangeSpec := { name := "fnWordShort", fn := fun _ => fun
  | [d] => { results := [.lit (.bool false)], args := [d] }
  | _ => none }
def FnWordShortWrongFalsely : Prop := fnWordShortRow.holds Try.pinned (OpenSpec.ofChange fnWordShortWrong)

/-- 'laws.FnWordEither': WHATEVER THE INPUT: true; the input reads as it did. -/
def fnWordEitherSpec : ChangeSpec := { name := "fnWordEither", fn := fun _ => fun
  | [d] => { results := [.lit (.bool true)], args := [d] }
  | _ => none }
def fnWordEitherRow : OpenClaim := { program := "ytadidkkpokpocac", sum := "fb03c37b6c8365668120203683a218c65e34c731e110417e668b0fa9ac1b4a2e", func := "loop.example/lamson/laws.FnWordEither", spec := "fnWordEither", unfollowed := true, recurses := true, apart := false }
def FnWordEitherSaid : Prop := fnWordEitherRow.holds Try.pinned (OpenSpec.ofChange fnWordEitherSpec)

/-- ITS FALSE NEIGHBOUR: 'it returns false'. Refute it at one input. -/
def fnWordEitherWrong : ChangeSpec := { name := "fnWordEither", fn := fun _ => fun
  | [d] => { results := [.lit (.bool false)], args := [d] }
  | _ => none }
def FnWordEitherWrongFalsely : Prop := fnWordEitherRow.holds Try.pinned (OpenSpec.ofChange fnWordEitherWrong)

/-- 'laws.FnWordRead': WHATEVER THE INPUT: true; the input reads as it did. -/
def fnWordReadSpec : ChangeSpec := { name := "fnWordRead", fn := fun _ => fun
  | [d] => { results := [.lit (.bool true)], args := [d] }
  | _ => none }
def fnWordReadRow : OpenClaim := { program := "ytadidkkpokpocac", sum := "fb03c37b6c8365668120203683a218c65e34c731e110417e668b0fa9ac1b4a2e", func := "loop.example/lamson/laws.FnWordRead", spec := "fnWordRead", unfollowed := true, recurses := true, apart := false }
def FnWordReadSaid : Prop := fnWordReadRow.holds Try.pinned (OpenSpec.ofChange fnWordReadSpec)

/-- ITS FALSE NEIGHBOUR: 'it returns false'. Refute it at one input. -/
def fnWordReadWrong : ChangeSpec := { name := "fnWordRead", fn := fun _ => fun
  | [d] => { results := [.lit (.bool false)], args := [d] }
  | _ => none }
def FnWordReadWrongFalsely : Prop := fnWordReadRow.holds Try.pinned (OpenSpec.ofChange fnWordReadWrong)

/-- 'laws.FnPackLong': WHATEVER THE INPUT: true; the input reads as it did. -/
def fnPackLongSpec : ChangeSpec := { name := "fnPackLong", fn := fun _ => fun
  | [d1, d2] => { results := [.lit (.bool true)], args := [d1, d2] }
  | _ => none }
def fnPackLongRow : OpenClaim := { program := "ytadidkkpokpocac", sum := "fb03c37b6c8365668120203683a218c65e34c731e110417e668b0fa9ac1b4a2e", func := "loop.example/lamson/laws.FnPackLong", spec := "fnPackLong", unfollowed := true, recurses := true, apart := false }
def FnPackLongSaid : Prop := fnPackLongRow.holds Try.pinned (OpenSpec.ofChange fnPackLongSpec)

/-- ITS FALSE NEIGHBOUR: 'it returns false'. Refute it at one input. -/
def fnPackLongWrong : ChangeSpec := { name := "fnPackLong", fn := fun _ => fun
  | [d1, d2] => { results := [.lit (.bool false)], args := [d1, d2] }
  | _ => none }
def FnPackLongWrongFalsely : Prop := fnPackLongRow.holds Try.pinned (OpenSpec.ofChange fnPackLongWrong)

/-- 'laws.FnPackBegins': WHATEVER THE INPUT: true; the input reads as it did. -/
def fnPackBeginsSpec : ChangeSpec := { name := "fnPackBegins", fn := fun _ => fun
  | [d1, d2] => { results := [.lit (.bool true)], args := [d1, d2] }
  | _ => none }
def fnPackBeginsRow : OpenClaim := { program := "ytadidkkpokpocac", sum := "fb03c37b6c8365668120203683a218c65e34c731e110417e668b0fa9ac1b4a2e", func := "loop.example/lamson/laws.FnPackBegins", spec := "fnPackBegins", unfollowed := true, recurses := true, apart := false }
def FnPackBeginsSaid : Prop := fnPackBeginsRow.holds Try.pinned (OpenSpec.ofChange fnPackBeginsSpec)

/-- ITS FALSE NEIGHBOUR: 'it returns false'. Refute it at one input. -/
def fnPackBeginsWrong : ChangeSpec := { name := "fnPackBegins", fn := fun _ => fun
  | [d1, d2] => { results := [.lit (.bool false)], args := [d1, d2] }
  | _ => none }
def FnPackBeginsWrongFalsely : Prop := fnPackBeginsRow.holds Try.pinned (OpenSpec.ofChange fnPackBeginsWrong)

/- THE SECOND FORM. 'bulk': how many values and letters a reading holds, each counted each time it is reached (what is shared counts as often as it is met; a slice's spare places count too). A statement '..UptoSaid' is the law's where the arguments, and the package variables that the reading takes, are together of bulk at most 1048576: NARROWER than '..Said'. Prove '..Said' where nothing that the law and all that it calls make is longer than what came in: it says more and counts as full. Else prove '..UptoSaid'. A law counts once. -/
mutual
def uptoBulk {H : Type} : DataW H → Nat
  | .lit (.string bytes) => bytes.length + 1
  | .lit _ => 1
  | .nil => 1
  | .ptr d => uptoBulk d + 1
  | .slice elems spare => uptoBulkAll elems + uptoBulkAll spare + 1
  | .agg parts => uptoBulkAll parts + 1
  | .iface _ d => uptoBulk d + 1
  | .map entries => uptoBulkEntries entries + 1
  | .held _ => 1
def uptoBulkAll {H : Type} : List (DataW H) → Nat
  | [] => 0
  | d :: r => uptoBulk d + uptoBulkAll r
def uptoBulkEntries {H : Type} : List (Lit × DataW H) → Nat
  | [] => 0
  | x :: r => uptoBulkEntry x + uptoBulkEntries r
def uptoBulkEntry {H : Type} : Lit × DataW H → Nat
  | (.string bytes, d) => bytes.length + uptoBulk d + 1
  | (_, d) => uptoBulk d + 1
 end
def uptoSmall : (H : Type) → List (DataW H) → Bool := fun _ ds => decide (uptoBulkAll ds ≤ 1048576)
def OpenSpec.upto (s : _root_.Go.ChangeSpec) : _root_.Go.OpenSpec := { _root_.Go.OpenSpec.ofChange s with cond := some uptoSmall }

/-- 'laws.FnWordBack', WHERE WHAT IT READS IS OF BULK AT MOST 1048576: true; the input reads as it did. -/
def fnWordBackUptoRow : OpenClaim := { program := "ytadidkkpokpocac", sum := "fb03c37b6c8365668120203683a218c65e34c731e110417e668b0fa9ac1b4a2e", func := "loop.example/lamson/laws.FnWordBack", spec := "fnWordBack", unfollowed := true, recurses := true, apart := false, narrowed := true }
def FnWordBackUptoSaid : Prop := fnWordBackUptoRow.holds Try.pinned (OpenSpec.upto fnWordBackSpec)

/-- 'laws.FnWordShort', WHERE WHAT IT READS IS OF BULK AT MOST 1048576: true; the input reads as it did. -/
def fnWordShortUptoRow : OpenClaim := { program := "ytadidkkpokpocac", sum := "fb03c37b6c8365668120203683a218c65e34c731e110417e668b0fa9ac1b4a2e", func := "loop.example/lamson/laws.FnWordShort", spec := "fnWordShort", unfollowed := true, recurses := true, apart := false, narrowed := true }
def FnWordShortUptoSaid : Prop := fnWordShortUptoRow.holds Try.pinned (OpenSpec.upto fnWordShortSpec)

/-- 'laws.FnWordEither', WHERE WHAT IT READS IS OF BULK AT MOST 1048576: true; the input reads as it did. -/
def fnWordEitherUptoRow : OpenClaim := { program := "ytadidkkpokpocac", sum := "fb03c37b6c8365668120203683a218c65e34c731e110417e668b0fa9ac1b4a2e", func := "loop.example/lamson/laws.FnWordEither", spec := "fnWordEither", unfollowed := true, recurses := true, apart := false, narrowed := true }
def FnWordEitherUptoSaid : Prop := fnWordEitherUptoRow.holds Try.pinned (OpenSpec.upto fnWordEitherSpec)

/-- 'laws.FnWordRead', WHERE WHAT IT READS IS OF BULK AT MOST 1048576: true; the input reads as it did. -/
def fnWordReadUptoRow : OpenClaim := { program := "ytadidkkpokpocac", sum := "fb03c37b6c8365668120203683a218c65e34c731e110417e668b0fa9ac1b4a2e", func := "loop.example/lamson/laws.FnWordRead", spec := "fnWordRead", unfollowed := true, recurses := true, apart := false, narrowed := true }
def FnWordReadUptoSaid : Prop := fnWordReadUptoRow.holds Try.pinned (OpenSpec.upto fnWordReadSpec)

/-- 'laws.FnPackLong', WHERE WHAT IT READS IS OF BULK AT MOST 1048576: true; the input reads as it did. -/
def fnPackLongUptoRow : OpenClaim := { program := "ytadidkkpokpocac", sum := "fb03c37b6c8365668120203683a218c65e34c731e110417e668b0fa9ac1b4a2e", func := "loop.example/lamson/laws.FnPackLong", spec := "fnPackLong", unfollowed := true, recurses := true, apart := false, narrowed := true }
def FnPackLongUptoSaid : Prop := fnPackLongUptoRow.holds Try.pinned (OpenSpec.upto fnPackLongSpec)

/-- 'laws.FnPackBegins', WHERE WHAT IT READS IS OF BULK AT MOST 1048576: true; the input reads as it did. -/
def fnPackBeginsUptoRow : OpenClaim := { program := "ytadidkkpokpocac", sum := "fb03c37b6c8365668120203683a218c65e34c731e110417e668b0fa9ac1b4a2e", func := "loop.example/lamson/laws.FnPackBegins", spec := "fnPackBegins", unfollowed := true, recurses := true, apart := false, narrowed := true }
def FnPackBeginsUptoSaid : Prop := fnPackBeginsUptoRow.holds Try.pinned (OpenSpec.upto fnPackBeginsSpec)

end Rows
end Go.Proofs.Ytadidkkpokpocac
