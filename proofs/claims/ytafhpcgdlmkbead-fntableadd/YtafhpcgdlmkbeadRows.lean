/-
  No cell of these rows narrows 'for every input' (looked for: loops, veiled, ifaces, maps, wideKeys, modest, calm, conditions, laid).
  DERIVED. THE GIVEN ROWS OF THIS SEAT. 6 by the template 'for every input the law returns true; each argument reads behind the call as it read before'; 0 by the template 'total and deterministic' (their statements: YtafhpcgdlmkbeadTotals.lean).
  GIVEN WITH THE SEED: the statements are not yours to turn. If you find one false, say at which input.
  Laid BY PROGRAM, IN A SANDBOX (cutbox-rows.mjs): the forced cells as the released guide's own fill.sh prints them over the translation 2ab378887a5878be… (all of the seat's roots in one cut). By AI agents, Wed Nov 11 2026. No macro, syntax, notation, axiom, sorry.
-/
import Derived.Test.YtafhpcgdlmkbeadChecked
import GoSem.Claim
import GoSem.ClaimJoined
import GoSem.ClaimMapViews
import Derived.JoinedTies
import Derived.KernelRfl
namespace Go.Proofs.Ytafhpcgdlmkbead
/- THE CELL 'sum', in the pinned program and in every row, IS THE sha256 OF THE DUMP (.gsa) THAT YtafhpcgdlmkbeadProg.lean LOADS. Nothing in Lean hashes anything: it is a label: what it is worth is what the hold of that sum in a sandbox is worth. -/
noncomputable def Try.pinned : Pinned := { name := "ytafhpcgdlmkbead", sum := "2ab378887a5878be61f799c0e42af2da9d3663d4516a085c589c2f48e8a15f71", checked := Try.checked }
namespace Rows
def none {H : Type} : Left H := { results := [], args := [] }

/-- 'laws.FnWordTwo': WHATEVER THE INPUT: true; the input reads as it did. -/
def fnWordTwoSpec : ChangeSpec := { name := "fnWordTwo", fn := fun _ => fun
  | [d1, d2] => { results := [.lit (.bool true)], args := [d1, d2] }
  | _ => none }
def fnWordTwoRow : OpenClaim := { program := "ytafhpcgdlmkbead", sum := "2ab378887a5878be61f799c0e42af2da9d3663d4516a085c589c2f48e8a15f71", func := "loop.example/lamson/laws.FnWordTwo", spec := "fnWordTwo", unfollowed := true, recurses := true, apart := false }
def FnWordTwoSaid : Prop := fnWordTwoRow.holds Try.pinned (OpenSpec.ofChange fnWordTwoSpec)

/-- ITS FALSE NEIGHBOUR: 'it returns false'. Refute it at one input. -/
def fnWordTwoWrong : ChangeSpec := { name := "fnWordTwo", fn := fun _ => fun
  | [d1, d2] => { results := [.lit (.bool false)], args := [d1, d2] }
  | _ => none }
def FnWordTwoWrongFalsely : Prop := fnWordTwoRow.holds Try.pinned (OpenSpec.ofChange fnWordTwoWrong)

/-- 'laws.FnWordLack': WHATEVER THE INPUT: true; the input reads as it did. -/
def fnWordLackSpec : ChangeSpec := { name := "fnWordLack", fn := fun _ => fun
  | [d1, d2] => { results := [.lit (.bool true)], args := [d1, d2] }
  | _ => none }
def fnWordLackRow : OpenClaim := { program := "ytafhpcgdlmkbead", sum := "2ab378887a5878be61f799c0e42af2da9d3663d4516a085c589c2f48e8a15f71", func := "loop.example/lamson/laws.FnWordLack", spec := "fnWordLack", unfollowed := true, recurses := true, apart := false }
def FnWordLackSaid : Prop := fnWordLackRow.holds Try.pinned (OpenSpec.ofChange fnWordLackSpec)

/-- ITS FALSE NEIGHBOUR: 'it returns false'. Refute it at one input. -/
def fnWordLackWrong : ChangeSpec := { name := "fnWordLack", fn := fun _ => fun
  | [d1, d2] => { results := [.lit (.bool false)], args := [d1, d2] }
  | _ => none }
def FnWordLackWrongFalsely : Prop := fnWordLackRow.holds Try.pinned (OpenSpec.ofChange fnWordLackWrong)

/-- 'laws.FnFieldForm': WHATEVER THE INPUT: true; the input reads as it did. -/
def fnFieldFormSpec : ChangeSpec := { name := "fnFieldForm", fn := fun _ => fun
  | [d1, d2] => { results := [.lit (.bool true)], args := [d1, d2] }
  | _ => none }
def fnFieldFormRow : OpenClaim := { program := "ytafhpcgdlmkbead", sum := "2ab378887a5878be61f799c0e42af2da9d3663d4516a085c589c2f48e8a15f71", func := "loop.example/lamson/laws.FnFieldForm", spec := "fnFieldForm", apart := false }
def FnFieldFormSaid : Prop := fnFieldFormRow.holds Try.pinned (OpenSpec.ofChange fnFieldFormSpec)

/-- ITS FALSE NEIGHBOUR: 'it returns false'. Refute it at one input. -/
def fnFieldFormWrong : ChangeSpec := { name := "fnFieldForm", fn := fun _ => fun
  | [d1, d2] => { results := [.lit (.bool false)], args := [d1, d2] }
  | _ => none }
def FnFieldFormWrongFalsely : Prop := fnFieldFormRow.holds Try.pinned (OpenSpec.ofChange fnFieldFormWrong)

/-- 'laws.FnTableSize': WHATEVER THE INPUT: true; the input reads as it did. -/
def fnTableSizeSpec : ChangeSpec := { name := "fnTableSize", fn := fun _ => fun
  | [d1, d2] => { results := [.lit (.bool true)], args := [d1, d2] }
  | _ => none }
def fnTableSizeRow : OpenClaim := { program := "ytafhpcgdlmkbead", sum := "2ab378887a5878be61f799c0e42af2da9d3663d4516a085c589c2f48e8a15f71", func := "loop.example/lamson/laws.FnTableSize", spec := "fnTableSize", apart := false }
def FnTableSizeSaid : Prop := fnTableSizeRow.holds Try.pinned (OpenSpec.ofChange fnTableSizeSpec)

/-- ITS FALSE NEIGHBOUR: 'it returns false'. Refute it at one input. -/
def fnTableSizeWrong : ChangeSpec := { name := "fnTableSize", fn := fun _ => fun
  | [d1, d2] => { results := [.lit (.bool false)], args := [d1, d2] }
  | _ => none }
def FnTableSizeWrongFalsely : Prop := fnTableSizeRow.holds Try.pinned (OpenSpec.ofChange fnTableSizeWrong)

/-- 'laws.FnTableOk': WHATEVER THE INPUT: true; the input reads as it did. -/
def fnTableOkSpec : ChangeSpec := { name := "fnTableOk", fn := fun _ => fun
  | [d1, d2] => { results := [.lit (.bool true)], args := [d1, d2] }
  | _ => none }
def fnTableOkRow : OpenClaim := { program := "ytafhpcgdlmkbead", sum := "2ab378887a5878be61f799c0e42af2da9d3663d4516a085c589c2f48e8a15f71", func := "loop.example/lamson/laws.FnTableOk", spec := "fnTableOk", apart := false }
def FnTableOkSaid : Prop := fnTableOkRow.holds Try.pinned (OpenSpec.ofChange fnTableOkSpec)

/-- ITS FALSE NEIGHBOUR: 'it returns false'. Refute it at one input. -/
def fnTableOkWrong : ChangeSpec := { name := "fnTableOk", fn := fun _ => fun
  | [d1, d2] => { results := [.lit (.bool false)], args := [d1, d2] }
  | _ => none }
def FnTableOkWrongFalsely : Prop := fnTableOkRow.holds Try.pinned (OpenSpec.ofChange fnTableOkWrong)

/-- 'laws.FnTableAdd': WHATEVER THE INPUT: true; the input reads as it did. -/
def fnTableAddSpec : ChangeSpec := { name := "fnTableAdd", fn := fun _ => fun
  | [d] => { results := [.lit (.bool true)], args := [d] }
  | _ => none }
def fnTableAddRow : OpenClaim := { program := "ytafhpcgdlmkbead", sum := "2ab378887a5878be61f799c0e42af2da9d3663d4516a085c589c2f48e8a15f71", func := "loop.example/lamson/laws.FnTableAdd", spec := "fnTableAdd", apart := false }
def FnTableAddSaid : Prop := fnTableAddRow.holds Try.pinned (OpenSpec.ofChange fnTableAddSpec)

/-- ITS FALSE NEIGHBOUR: 'it returns false'. Refute it at one input. -/
def fnTableAddWrong : ChangeSpec := { name := "fnTableAdd", fn := fun _ => fun
  | [d] => { results := [.lit (.bool false)], args := [d] }
  | _ => none }
def FnTableAddWrongFalsely : Prop := fnTableAddRow.holds Try.pinned (OpenSpec.ofChange fnTableAddWrong)

/- THE SECOND FORM. 'bulk': how many values and letters a reading holds, each counted each time it is reached (what is shared counts as often as it is met; a slice's spare places count too). A statement '..UptoSaid' is the law's where the arguments, and the package variables that the reading takes, are together of bulk at most 1048576: NARROWER than '..Said'. Prove '..Said' where nothing that the law and all that it calls make is longer than what came in: it says more and counts as full. Else prove '..UptoSaid'. A law counts once. -/
mutual
def uptoBulk {H : Type} : DataW H → Nat
  | .lit (.string bytes) => bytes.length + 1
  | .lit _ => 1
  | .nil => 1
  | .ptr d => uptoBulk d + 1
  | .slice elems spare => uptoBulkAll elems + uptoBulkAll spare + 1
  | .agg parts => uptoBulkAll parts + 1
  | .iface _ d => uptoBulk d + 1
  | .map entries => uptoBulkEntries entries + 1
  | .held _ => 1
def uptoBulkAll {H : Type} : List (DataW H) → Nat
  | [] => 0
  | d :: r => uptoBulk d + uptoBulkAll r
def uptoBulkEntries {H : Type} : List (Lit × DataW H) → Nat
  | [] => 0
  | x :: r => uptoBulkEntry x + uptoBulkEntries r
def uptoBulkEntry {H : Type} : Lit × DataW H → Nat
  | (.string bytes, d) => bytes.length + uptoBulk d + 1
  | (_, d) => uptoBulk d + 1
 end
def uptoSmall : (H : Type) → List (DataW H) → Bool := fun _ ds => decide (uptoBulkAll ds ≤ 1048576)
def OpenSpec.upto (s : _root_.Go.ChangeSpec) : _root_.Go.OpenSpec := { _root_.Go.OpenSpec.ofChange s with cond := some uptoSmall }

/-- 'laws.FnWordTwo', WHERE WHAT IT READS IS OF BULK AT MOST 1048576: true; the input reads as it did. -/
def fnWordTwoUptoRow : OpenClaim := { program := "ytafhpcgdlmkbead", sum := "2ab378887a5878be61f799c0e42af2da9d3663d4516a085c589c2f48e8a15f71", func := "loop.example/lamson/laws.FnWordTwo", spec := "fnWordTwo", unfollowed := true, recurses := true, apart := false, narrowed := true }
def FnWordTwoUptoSaid : Prop := fnWordTwoUptoRow.holds Try.pinned (OpenSpec.upto fnWordTwoSpec)

/-- 'laws.FnWordLack', WHERE WHAT IT READS IS OF BULK AT MOST 1048576: true; the input reads as it did. -/
def fnWordLackUptoRow : OpenClaim := { program := "ytafhpcgdlmkbead", sum := "2ab378887a5878be61f799c0e42af2da9d3663d4516a085c589c2f48e8a15f71", func := "loop.example/lamson/laws.FnWordLack", spec := "fnWordLack", unfollowed := true, recurses := true, apart := false, narrowed := true }
def FnWordLackUptoSaid : Prop := fnWordLackUptoRow.holds Try.pinned (OpenSpec.upto fnWordLackSpec)

/-- 'laws.FnFieldForm', WHERE WHAT IT READS IS OF BULK AT MOST 1048576: true; the input reads as it did. -/
def fnFieldFormUptoRow : OpenClaim := { program := "ytafhpcgdlmkbead", sum := "2ab378887a5878be61f799c0e42af2da9d3663d4516a085c589c2f48e8a15f71", func := "loop.example/lamson/laws.FnFieldForm", spec := "fnFieldForm", apart := false, narrowed := true }
def FnFieldFormUptoSaid : Prop := fnFieldFormUptoRow.holds Try.pinned (OpenSpec.upto fnFieldFormSpec)

/-- 'laws.FnTableSize', WHERE WHAT IT READS IS OF BULK AT MOST 1048576: true; the input reads as it did. -/
def fnTableSizeUptoRow : OpenClaim := { program := "ytafhpcgdlmkbead", sum := "2ab378887a5878be61f799c0e42af2da9d3663d4516a085c589c2f48e8a15f71", func := "loop.example/lamson/laws.FnTableSize", spec := "fnTableSize", apart := false, narrowed := true }
def FnTableSizeUptoSaid : Prop := fnTableSizeUptoRow.holds Try.pinned (OpenSpec.upto fnTableSizeSpec)

/-- 'laws.FnTableOk', WHERE WHAT IT READS IS OF BULK AT MOST 1048576: true; the input reads as it did. -/
def fnTableOkUptoRow : OpenClaim := { program := "ytafhpcgdlmkbead", sum := "2ab378887a5878be61f799c0e42af2da9d3663d4516a085c589c2f48e8a15f71", func := "loop.example/lamson/laws.FnTableOk", spec := "fnTableOk", apart := false, narrowed := true }
def FnTableOkUptoSaid : Prop := fnTableOkUptoRow.holds Try.pinned (OpenSpec.upto fnTableOkSpec)

/-- 'laws.FnTableAdd', WHERE WHAT IT READS IS OF BULK AT MOST 1048576: true; the input reads as it did. -/
def fnTableAddUptoRow : OpenClaim := { program := "ytafhpcgdlmkbead", sum := "2ab378887a5878be61f799c0e42af2da9d3663d4516a085c589c2f48e8a15f71", func := "loop.example/lamson/laws.FnTableAdd", spec := "fnTableAdd", apart := false, narrowed := true }
def FnTableAddUptoSaid : Prop := fnTableAddUptoRow.holds Try.pinned (OpenSpec.upto fnTableAddSpec)

end Rows
end Go.Proofs.Ytafhpcgdlmkbead
