import Derived.Test.YtghgcobnmmommaaDoorRows
import Derived.Test.YtghgcobnmmommaaDoorEnA2
import Derived.LaidLaws
import Derived.LaidHandle
import Derived.LaidMore
import Derived.MakeChecks
import Derived.Stop.LaidErr
namespace Go.Proofs.YtghgcobnmmommaaDoor
open Go.ChangeShapes Go.WideShapes Go.ChangeAt Go.RowKit
set_option linter.unusedVariables false

def laidVars : List (String × DataW Unit) := [("math/bits.deBruijn32tab", Rows.laid_math_bits_deBruijn32tab), ("math/bits.deBruijn64tab", Rows.laid_math_bits_deBruijn64tab), ("internal/strconv.uint64pow10", Rows.laid_internal_strconv_uint64pow10)]
theorem dtPlain (w : World) : laidMetH Tryd.prog laidVars w = laidMet Tryd.prog laidVars w := _root_.Go.MakeChecks.laidMetH_plain _ _ _ (by kernel_rfl)
theorem dtTab : (Rows.laid_internal_strconv_uint64pow10 : DataW Unit) = Lib.tabData .u64 Lib.pow10Tab := by rfl
theorem dtName : Tryd.prog.globalNamed "internal/strconv.uint64pow10" = some 0 := by kernel_rfl
theorem dtType : (Tryd.prog.globals[0]?).map (·.type) = some 48 := by kernel_rfl
/-- What the condition gives a walk. -/
theorem tabOfLaid {W : World} (h : laidMetH Tryd.prog laidVars W) : TabW W := by
  rw [dtPlain] at h
  have h2 : laidMet Tryd.prog [("internal/strconv.uint64pow10", Rows.laid_internal_strconv_uint64pow10)] W := h.tail.tail
  rw [dtTab] at h2
  exact Lib.tabIs_of_head dtName dtType Tryd.underlying48 Tryd.underlying42 (by kernel_rfl) (by kernel_rfl) h2
/-- The door's own heap meets the condition. -/
theorem doorMet (os : Os) (args : Array Value) : laidMetH Tryd.prog laidVars ((World.doorLaid Tryd.prog 400 os).forCall (fun _ _ => 0) ⟨#[], args, []⟩).memory := by
  rw [dtPlain]
  exact laidMet_of_run' 8 (by kernel_rfl) (by kernel_rfl)
end Go.Proofs.YtghgcobnmmommaaDoor
