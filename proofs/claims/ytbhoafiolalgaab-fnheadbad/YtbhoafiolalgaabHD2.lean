import Derived.Test.YtbhoafiolalgaabHD1
import Derived.Deep.RegionHeld3
namespace Go.Proofs.Ytbhoafiolalgaab
open Go.RowKit
set_option linter.unusedVariables false

/-- Drawn fields in memory. -/
structure DF (w : World) (a : Option Addr) (c : Nat) (fs : List Fd) : Prop where
  len : fs.length ≤ 21
  sm : fsSm fs
  fs : Fs w a fs.length c fs

end Go.Proofs.Ytbhoafiolalgaab
