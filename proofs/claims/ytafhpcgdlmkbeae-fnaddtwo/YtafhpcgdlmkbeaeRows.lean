/-
  No cell of these rows narrows 'for every input' (looked for: loops, veiled, ifaces, maps, wideKeys, modest, calm, conditions, laid).
  DERIVED. THE GIVEN ROWS OF THIS SEAT. 6 by the template 'for every input the law returns true; each argument reads behind the call as it read before'; 0 by the template 'total and deterministic' (their statements: YtafhpcgdlmkbeaeTotals.lean).
  GIVEN WITH THE SEED: the statements are not yours to turn. If you find one false, say at which input.
  Laid BY PROGRAM, IN A SANDBOX (cutbox-rows.mjs): the forced cells as the released guide's own fill.sh prints them over the translation 8a77911008e5e55a… (all of the seat's roots in one cut). By AI agents, Wed Nov 11 2026. No macro, syntax, notation, axiom, sorry.
-/
import Derived.Test.YtafhpcgdlmkbeaeChecked
import GoSem.Claim
import GoSem.ClaimJoined
import GoSem.ClaimMapViews
import Derived.JoinedTies
import Derived.KernelRfl
namespace Go.Proofs.Ytafhpcgdlmkbeae
/- THE CELL 'sum', in the pinned program and in every row, IS THE sha256 OF THE DUMP (.gsa) THAT YtafhpcgdlmkbeaeProg.lean LOADS. Nothing in Lean hashes anything: it is a label: what it is worth is what the hold of that sum in a sandbox is worth. -/
noncomputable def Try.pinned : Pinned := { name := "ytafhpcgdlmkbeae", sum := "8a77911008e5e55a48a1ee11de25d1405feb30bf818f45b20962e816c6e2c5ee", checked := Try.checked }
namespace Rows
def none {H : Type} : Left H := { results := [], args := [] }

/-- 'laws.FnTableLimit': WHATEVER THE INPUT: true; the input reads as it did. -/
def fnTableLimitSpec : ChangeSpec := { name := "fnTableLimit", fn := fun _ => fun
  | [d] => { results := [.lit (.bool true)], args := [d] }
  | _ => none }
def fnTableLimitRow : OpenClaim := { program := "ytafhpcgdlmkbeae", sum := "8a77911008e5e55a48a1ee11de25d1405feb30bf818f45b20962e816c6e2c5ee", func := "loop.example/lamson/laws.FnTableLimit", spec := "fnTableLimit", apart := false }
def FnTableLimitSaid : Prop := fnTableLimitRow.holds Try.pinned (OpenSpec.ofChange fnTableLimitSpec)

/-- ITS FALSE NEIGHBOUR: 'it returns false'. Refute it at one input. -/
def fnTableLimitWrong : ChangeSpec := { name := "fnTableLimit", fn := fun _ => fun
  | [d] => { results := [.lit (.bool false)], args := [d] }
  | _ => none }
def FnTableLimitWrongFalsely : Prop := fnTableLimitRow.holds Try.pinned (OpenSpec.ofChange fnTableLimitWrong)

/-- 'laws.FnTableAt': WHATEVER THE INPUT: true; the input reads as it did. -/
def fnTableAtSpec : ChangeSpec := { name := "fnTableAt", fn := fun _ => fun
  | [d] => { results := [.lit (.bool true)], args := [d] }
  | _ => none }
def fnTableAtRow : OpenClaim := { program := "ytafhpcgdlmkbeae", sum := "8a77911008e5e55a48a1ee11de25d1405feb30bf818f45b20962e816c6e2c5ee", func := "loop.example/lamson/laws.FnTableAt", spec := "fnTableAt", apart := false }
def FnTableAtSaid : Prop := fnTableAtRow.holds Try.pinned (OpenSpec.ofChange fnTableAtSpec)

/-- ITS FALSE NEIGHBOUR: 'it returns false'. Refute it at one input. -/
def fnTableAtWrong : ChangeSpec := { name := "fnTableAt", fn := fun _ => fun
  | [d] => { results := [.lit (.bool false)], args := [d] }
  | _ => none }
def FnTableAtWrongFalsely : Prop := fnTableAtRow.holds Try.pinned (OpenSpec.ofChange fnTableAtWrong)

/-- 'laws.FnTableFind': WHATEVER THE INPUT: true; the input reads as it did. -/
def fnTableFindSpec : ChangeSpec := { name := "fnTableFind", fn := fun _ => fun
  | [d] => { results := [.lit (.bool true)], args := [d] }
  | _ => none }
def fnTableFindRow : OpenClaim := { program := "ytafhpcgdlmkbeae", sum := "8a77911008e5e55a48a1ee11de25d1405feb30bf818f45b20962e816c6e2c5ee", func := "loop.example/lamson/laws.FnTableFind", spec := "fnTableFind", apart := false }
def FnTableFindSaid : Prop := fnTableFindRow.holds Try.pinned (OpenSpec.ofChange fnTableFindSpec)

/-- ITS FALSE NEIGHBOUR: 'it returns false'. Refute it at one input. -/
def fnTableFindWrong : ChangeSpec := { name := "fnTableFind", fn := fun _ => fun
  | [d] => { results := [.lit (.bool false)], args := [d] }
  | _ => none }
def FnTableFindWrongFalsely : Prop := fnTableFindRow.holds Try.pinned (OpenSpec.ofChange fnTableFindWrong)

/-- 'laws.FnAddFind': WHATEVER THE INPUT: true; the input reads as it did. -/
def fnAddFindSpec : ChangeSpec := { name := "fnAddFind", fn := fun _ => fun
  | [d] => { results := [.lit (.bool true)], args := [d] }
  | _ => none }
def fnAddFindRow : OpenClaim := { program := "ytafhpcgdlmkbeae", sum := "8a77911008e5e55a48a1ee11de25d1405feb30bf818f45b20962e816c6e2c5ee", func := "loop.example/lamson/laws.FnAddFind", spec := "fnAddFind", apart := false }
def FnAddFindSaid : Prop := fnAddFindRow.holds Try.pinned (OpenSpec.ofChange fnAddFindSpec)

/-- ITS FALSE NEIGHBOUR: 'it returns false'. Refute it at one input. -/
def fnAddFindWrong : ChangeSpec := { name := "fnAddFind", fn := fun _ => fun
  | [d] => { results := [.lit (.bool false)], args := [d] }
  | _ => none }
def FnAddFindWrongFalsely : Prop := fnAddFindRow.holds Try.pinned (OpenSpec.ofChange fnAddFindWrong)

/-- 'laws.FnFixedOk': WHATEVER THE INPUT: true; the input reads as it did. -/
def fnFixedOkSpec : ChangeSpec := { name := "fnFixedOk", fn := fun _ => fun
  | [d1, d2] => { results := [.lit (.bool true)], args := [d1, d2] }
  | _ => none }
def fnFixedOkRow : OpenClaim := { program := "ytafhpcgdlmkbeae", sum := "8a77911008e5e55a48a1ee11de25d1405feb30bf818f45b20962e816c6e2c5ee", func := "loop.example/lamson/laws.FnFixedOk", spec := "fnFixedOk", apart := false }
def FnFixedOkSaid : Prop := fnFixedOkRow.holds Try.pinned (OpenSpec.ofChange fnFixedOkSpec)

/-- ITS FALSE NEIGHBOUR: 'it returns false'. Refute it at one input. -/
def fnFixedOkWrong : ChangeSpec := { name := "fnFixedOk", fn := fun _ => fun
  | [d1, d2] => { results := [.lit (.bool false)], args := [d1, d2] }
  | _ => none }
def FnFixedOkWrongFalsely : Prop := fnFixedOkRow.holds Try.pinned (OpenSpec.ofChange fnFixedOkWrong)

/-- 'laws.FnAddTwo': WHATEVER THE INPUT: true; the input reads as it did. -/
def fnAddTwoSpec : ChangeSpec := { name := "fnAddTwo", fn := fun _ => fun
  | [d1, d2] => { results := [.lit (.bool true)], args := [d1, d2] }
  | _ => none }
def fnAddTwoRow : OpenClaim := { program := "ytafhpcgdlmkbeae", sum := "8a77911008e5e55a48a1ee11de25d1405feb30bf818f45b20962e816c6e2c5ee", func := "loop.example/lamson/laws.FnAddTwo", spec := "fnAddTwo", apart := false }
def FnAddTwoSaid : Prop := fnAddTwoRow.holds Try.pinned (OpenSpec.ofChange fnAddTwoSpec)

/-- ITS FALSE NEIGHBOUR: 'it returns false'. Refute it at one input. -/
def fnAddTwoWrong : ChangeSpec := { name := "fnAddTwo", fn := fun _ => fun
  | [d1, d2] => { results := [.lit (.bool false)], args := [d1, d2] }
  | _ => none }
def FnAddTwoWrongFalsely : Prop := fnAddTwoRow.holds Try.pinned (OpenSpec.ofChange fnAddTwoWrong)

/- THE SECOND FORM. 'bulk': how many values and letters a reading holds, each counted each time it is reached (what is shared counts as often as it is met; a slice's spare places count too). A statement '..UptoSaid' is the law's where the arguments, and the package variables that the reading takes, are together of bulk at most 1048576: NARROWER than '..Said'. Prove '..Said' where nothing that the law and all that it calls make is longer than what came in: it says more and counts as full. Else prove '..UptoSaid'. A law counts once. -/
mutual
def uptoBulk {H : Type} : DataW H → Nat
  | .lit (.string bytes) => bytes.length + 1
  | .lit _ => 1
  | .nil => 1
  | .ptr d => uptoBulk d + 1
  | .slice elems spare => uptoBulkAll elems + uptoBulkAll spare + 1
  | .agg parts => uptoBulkAll parts + 1
  | .iface _ d => uptoBulk d + 1
  | .map entries => uptoBulkEntries entries + 1
  | .held _ => 1
def uptoBulkAll {H : Type} : List (DataW H) → Nat
  | [] => 0
  | d :: r => uptoBulk d + uptoBulkAll r
def uptoBulkEntries {H : Type} : List (Lit × DataW H) → Nat
  | [] => 0
  | x :: r => uptoBulkEntry x + uptoBulkEntries r
def uptoBulkEntry {H : Type} : Lit × DataW H → Nat
  | (.string bytes, d) => bytes.length + uptoBulk d + 1
  | (_, d) => uptoBulk d + 1
 end
def uptoSmall : (H : Type) → List (DataW H) → Bool := fun _ ds => decide (uptoBulkAll ds ≤ 1048576)
def OpenSpec.upto (s : _root_.Go.ChangeSpec) : _root_.Go.OpenSpec := { _root_.Go.OpenSpec.ofChange s with cond := some uptoSmall }

/-- 'laws.FnTableLimit', WHERE WHAT IT READS IS OF BULK AT MOST 1048576: true; the input reads as it did. -/
def fnTableLimitUptoRow : OpenClaim := { program := "ytafhpcgdlmkbeae", sum := "8a77911008e5e55a48a1ee11de25d1405feb30bf818f45b20962e816c6e2c5ee", func := "loop.example/lamson/laws.FnTableLimit", spec := "fnTableLimit", apart := false, narrowed := true }
def FnTableLimitUptoSaid : Prop := fnTableLimitUptoRow.holds Try.pinned (OpenSpec.upto fnTableLimitSpec)

/-- 'laws.FnTableAt', WHERE WHAT IT READS IS OF BULK AT MOST 1048576: true; the input reads as it did. -/
def fnTableAtUptoRow : OpenClaim := { program := "ytafhpcgdlmkbeae", sum := "8a77911008e5e55a48a1ee11de25d1405feb30bf818f45b20962e816c6e2c5ee", func := "loop.example/lamson/laws.FnTableAt", spec := "fnTableAt", apart := false, narrowed := true }
def FnTableAtUptoSaid : Prop := fnTableAtUptoRow.holds Try.pinned (OpenSpec.upto fnTableAtSpec)

/-- 'laws.FnTableFind', WHERE WHAT IT READS IS OF BULK AT MOST 1048576: true; the input reads as it did. -/
def fnTableFindUptoRow : OpenClaim := { program := "ytafhpcgdlmkbeae", sum := "8a77911008e5e55a48a1ee11de25d1405feb30bf818f45b20962e816c6e2c5ee", func := "loop.example/lamson/laws.FnTableFind", spec := "fnTableFind", apart := false, narrowed := true }
def FnTableFindUptoSaid : Prop := fnTableFindUptoRow.holds Try.pinned (OpenSpec.upto fnTableFindSpec)

/-- 'laws.FnAddFind', WHERE WHAT IT READS IS OF BULK AT MOST 1048576: true; the input reads as it did. -/
def fnAddFindUptoRow : OpenClaim := { program := "ytafhpcgdlmkbeae", sum := "8a77911008e5e55a48a1ee11de25d1405feb30bf818f45b20962e816c6e2c5ee", func := "loop.example/lamson/laws.FnAddFind", spec := "fnAddFind", apart := false, narrowed := true }
def FnAddFindUptoSaid : Prop := fnAddFindUptoRow.holds Try.pinned (OpenSpec.upto fnAddFindSpec)

/-- 'laws.FnFixedOk', WHERE WHAT IT READS IS OF BULK AT MOST 1048576: true; the input reads as it did. -/
def fnFixedOkUptoRow : OpenClaim := { program := "ytafhpcgdlmkbeae", sum := "8a77911008e5e55a48a1ee11de25d1405feb30bf818f45b20962e816c6e2c5ee", func := "loop.example/lamson/laws.FnFixedOk", spec := "fnFixedOk", apart := false, narrowed := true }
def FnFixedOkUptoSaid : Prop := fnFixedOkUptoRow.holds Try.pinned (OpenSpec.upto fnFixedOkSpec)

/-- 'laws.FnAddTwo', WHERE WHAT IT READS IS OF BULK AT MOST 1048576: true; the input reads as it did. -/
def fnAddTwoUptoRow : OpenClaim := { program := "ytafhpcgdlmkbeae", sum := "8a77911008e5e55a48a1ee11de25d1405feb30bf818f45b20962e816c6e2c5ee", func := "loop.example/lamson/laws.FnAddTwo", spec := "fnAddTwo", apart := false, narrowed := true }
def FnAddTwoUptoSaid : Prop := fnAddTwoUptoRow.holds Try.pinned (OpenSpec.upto fnAddTwoSpec)

end Rows
end Go.Proofs.Ytafhpcgdlmkbeae
