import Derived.Test.YtmegdgkpdonikaaDoorRows
import Derived.Test.YtmegdgkpdonikaaDoorFI3
import Derived.LaidLaws
import Derived.LaidHandle
import Derived.LaidMore
import Derived.Stop.LaidErr
namespace Go.Proofs.YtmegdgkpdonikaaDoor
open Go.ChangeShapes Go.WideShapes Go.ChangeAt Go.RowKit
set_option linter.unusedVariables false

def laidVars : List (String × DataW Unit) := [("errors.errorType", Rows.laid_errors_errorType), ("loop.example/lamson/impl.errFrameCut", Rows.laid_loop_example_lamson_impl_errFrameCut)]
theorem drEt : Tryd.prog.globalNamed "errors.errorType" = some 1 := by kernel_rfl
theorem drCut : Tryd.prog.globalNamed "loop.example/lamson/impl.errFrameCut" = some 0 := by kernel_rfl
theorem drCutType : (Tryd.prog.globals[0]?).map (·.type) = some 39 := by kernel_rfl
theorem drRt : (Tryd.prog.cutTypes.find? (·.1 == "internal/reflectlite.rtype")).map (·.2) = some 70 := by kernel_rfl
theorem drOneRow : ((List.range 117).filter fun t => Tryd.prog.rowNamed t [101, 114, 114, 111, 114]) = [39] := by kernel_rfl
theorem drSize : Tryd.prog.types.size = 117 := by kernel_rfl
theorem drStar : "*" ++ "errors.errorString" = "*errors.errorString" := by decide
theorem drRowS (u : TypeId) (h : Tryd.prog.typeName? 3 u = some "*errors.errorString") : u = 84 :=
  typeName_ptr_named (nm := "errors.errorString") (by rw [drStar]; kernel_rfl) (by kernel_rfl) (by decide) u (by rw [drStar]; exact h)
theorem drCellsS : Tryd.prog.cellsOf 105 = 1 := by kernel_rfl
theorem drCellsStr : Tryd.prog.cellsOf 9 = 1 := by kernel_rfl

/-- What the condition gives a walk. -/
theorem glOfLaid {W : World} (h : laidMetH Tryd.prog laidVars W) : GL W := by
  have h' : laidMet Tryd.prog [("loop.example/lamson/impl.errFrameCut", Rows.laid_loop_example_lamson_impl_errFrameCut)] W ∧ handlesMet Tryd.prog [("errors.errorType", Rows.laid_errors_errorType)] W := h
  constructor
  · obtain ⟨name, u, ty, e1, e2, e3, e4, e5⟩ := h'.2 _ (List.mem_singleton.2 rfl)
    have en : name = [101, 114, 114, 111, 114] := (Option.some.inj e1).symm
    subst en
    obtain rfl := Option.some.inj (drRt.symm.trans e2)
    have hm : ty ∈ (List.range 117).filter fun t => Tryd.prog.rowNamed t [101, 114, 114, 111, 114] := List.mem_filter.2 ⟨List.mem_range.2 (by rw [← drSize]; exact e3), e4⟩
    rw [drOneRow] at hm
    obtain rfl := List.mem_singleton.1 hm
    have hh : typeHandle Tryd.prog 39 = .pointer (some ⟨2, 39, none⟩) := by kernel_rfl
    rw [hh] at e5
    unfold HE
    simpa using World.var?_cell drEt e5 0
  · obtain ⟨a, s, hv, _, _, _⟩ := laid_sentinel h'.1 drCut drCutType Tryd.underlying39 drRowS Tryd.underlying84 Tryd.underlying105 rfl rfl Tryd.underlying9 drCellsS drCellsStr
    exact ⟨a, by simpa using World.var?_cell drCut hv 0⟩
/-- The door's own heap meets the condition. -/
theorem doorMet (os : Os) (args : Array Value) : laidMetH Tryd.prog laidVars ((World.doorLaid Tryd.prog 400 os).forCall (fun _ _ => 0) ⟨#[], args, []⟩).memory :=
  laidMetH_of_parts (laidMet_of_run' 8 (by kernel_rfl) (by kernel_rfl)) (by kernel_rfl)
end Go.Proofs.YtmegdgkpdonikaaDoor
