/-
  DERIVED. GIVEN WITH THE SEED: THE CARDS: each row of YtmegdgkpdonikaaDoorRows.lean that lists a variable, with what it lists TIED to the program's text (the seventh form; the later family's looks); each row that meets fmt, with fmt's text TOLD by the authors' own Lean function (tested against real Go, not proved from fmt's source: count such statements apart). THE CARD IS WHAT COUNTS. Prove the row's statement (the work); the ties are given (YtmegdgkpdonikaaDoorTie.lean); close each card by the builder's one call (the guide's Derived/Test/ToyasCard.lean, 'card_holds'). Laid BY PROGRAM, IN A SANDBOX (cutbox-door.mjs). By AI agents, Wed Nov 11 2026. No macro, syntax, notation, axiom, sorry.
-/
import Derived.Test.YtmegdgkpdonikaaDoorRows
import GoSem.ClaimSeven
namespace Go.Proofs.YtmegdgkpdonikaaDoor
namespace Rows

/-- THE TIED CARD OF 'laws.FnFrameBack'. -/
def fnFrameBackCard : Claim7 := { stood := { row := fnFrameBackRow, standIns := [], harness := (true, "d3cdd42af50a315f3c12d5e71fed3ad0d7231db41dec4a52ad0375991ca44e4e"), looks := true }, kinds := [], alts := [], laidByText := true, laidKinds := [.handle, .sentinel], laidTests := true, laidLooks := .later }
def FnFrameBackCardSaid : Prop := Claim7.holds Tryd.pinned (.plain (OpenSpec.ofChange fnFrameBackSpec)) fnFrameBackCard

/-- THE TIED CARD OF 'laws.FnFrameStrict'. -/
def fnFrameStrictCard : Claim7 := { stood := { row := fnFrameStrictRow, standIns := [], harness := (true, "d3cdd42af50a315f3c12d5e71fed3ad0d7231db41dec4a52ad0375991ca44e4e"), looks := true }, kinds := [], alts := [], laidByText := true, laidKinds := [.handle, .sentinel], laidTests := true, laidLooks := .later }
def FnFrameStrictCardSaid : Prop := Claim7.holds Tryd.pinned (.plain (OpenSpec.ofChange fnFrameStrictSpec)) fnFrameStrictCard

/-- THE TIED CARD OF 'laws.FnFrameLack'. -/
def fnFrameLackCard : Claim7 := { stood := { row := fnFrameLackRow, standIns := [], harness := (true, "d3cdd42af50a315f3c12d5e71fed3ad0d7231db41dec4a52ad0375991ca44e4e"), looks := true }, kinds := [], alts := [], laidByText := true, laidKinds := [.handle, .sentinel], laidTests := true, laidLooks := .later }
def FnFrameLackCardSaid : Prop := Claim7.holds Tryd.pinned (.plain (OpenSpec.ofChange fnFrameLackSpec)) fnFrameLackCard

/-- THE TIED CARD OF 'laws.FnFrameTwo'. -/
def fnFrameTwoCard : Claim7 := { stood := { row := fnFrameTwoRow, standIns := [], harness := (true, "d3cdd42af50a315f3c12d5e71fed3ad0d7231db41dec4a52ad0375991ca44e4e"), looks := true }, kinds := [], alts := [], laidByText := true, laidKinds := [.handle, .sentinel], laidTests := true, laidLooks := .later }
def FnFrameTwoCardSaid : Prop := Claim7.holds Tryd.pinned (.plain (OpenSpec.ofChange fnFrameTwoSpec)) fnFrameTwoCard

/-- THE TIED CARD OF 'laws.FnFrameBad'. -/
def fnFrameBadCard : Claim7 := { stood := { row := fnFrameBadRow, standIns := [], harness := (true, "d3cdd42af50a315f3c12d5e71fed3ad0d7231db41dec4a52ad0375991ca44e4e"), looks := true }, kinds := [], alts := [], laidByText := true, laidKinds := [.handle, .sentinel], laidTests := true, laidLooks := .later }
def FnFrameBadCardSaid : Prop := Claim7.holds Tryd.pinned (.plain (OpenSpec.ofChange fnFrameBadSpec)) fnFrameBadCard

/-- THE TIED CARD OF 'laws.FnExactFrameRead'. -/
def fnExactFrameReadCard : Claim7 := { stood := { row := fnExactFrameReadRow, standIns := [], harness := (true, "d3cdd42af50a315f3c12d5e71fed3ad0d7231db41dec4a52ad0375991ca44e4e"), looks := true }, kinds := [], alts := [], laidByText := true, laidKinds := [.handle, .sentinel], laidTests := true, laidLooks := .later }
def FnExactFrameReadCardSaid : Prop := Claim7.holds Tryd.pinned (.plain (OpenSpec.ofChange fnExactFrameReadSpec)) fnExactFrameReadCard

/-- THE SECOND FORM's CARD OF 'laws.FnFrameBack'. -/
def fnFrameBackUptoCard : Claim7 := { stood := { row := fnFrameBackUptoRow, standIns := [], harness := (true, "d3cdd42af50a315f3c12d5e71fed3ad0d7231db41dec4a52ad0375991ca44e4e"), looks := true }, kinds := [], alts := [], laidByText := true, laidKinds := [.handle, .sentinel], laidTests := true, laidLooks := .later }
def FnFrameBackUptoCardSaid : Prop := Claim7.holds Tryd.pinned (.plain (OpenSpec.upto fnFrameBackSpec)) fnFrameBackUptoCard

/-- THE SECOND FORM's CARD OF 'laws.FnFrameStrict'. -/
def fnFrameStrictUptoCard : Claim7 := { stood := { row := fnFrameStrictUptoRow, standIns := [], harness := (true, "d3cdd42af50a315f3c12d5e71fed3ad0d7231db41dec4a52ad0375991ca44e4e"), looks := true }, kinds := [], alts := [], laidByText := true, laidKinds := [.handle, .sentinel], laidTests := true, laidLooks := .later }
def FnFrameStrictUptoCardSaid : Prop := Claim7.holds Tryd.pinned (.plain (OpenSpec.upto fnFrameStrictSpec)) fnFrameStrictUptoCard

/-- THE SECOND FORM's CARD OF 'laws.FnFrameLack'. -/
def fnFrameLackUptoCard : Claim7 := { stood := { row := fnFrameLackUptoRow, standIns := [], harness := (true, "d3cdd42af50a315f3c12d5e71fed3ad0d7231db41dec4a52ad0375991ca44e4e"), looks := true }, kinds := [], alts := [], laidByText := true, laidKinds := [.handle, .sentinel], laidTests := true, laidLooks := .later }
def FnFrameLackUptoCardSaid : Prop := Claim7.holds Tryd.pinned (.plain (OpenSpec.upto fnFrameLackSpec)) fnFrameLackUptoCard

/-- THE SECOND FORM's CARD OF 'laws.FnFrameTwo'. -/
def fnFrameTwoUptoCard : Claim7 := { stood := { row := fnFrameTwoUptoRow, standIns := [], harness := (true, "d3cdd42af50a315f3c12d5e71fed3ad0d7231db41dec4a52ad0375991ca44e4e"), looks := true }, kinds := [], alts := [], laidByText := true, laidKinds := [.handle, .sentinel], laidTests := true, laidLooks := .later }
def FnFrameTwoUptoCardSaid : Prop := Claim7.holds Tryd.pinned (.plain (OpenSpec.upto fnFrameTwoSpec)) fnFrameTwoUptoCard

/-- THE SECOND FORM's CARD OF 'laws.FnFrameBad'. -/
def fnFrameBadUptoCard : Claim7 := { stood := { row := fnFrameBadUptoRow, standIns := [], harness := (true, "d3cdd42af50a315f3c12d5e71fed3ad0d7231db41dec4a52ad0375991ca44e4e"), looks := true }, kinds := [], alts := [], laidByText := true, laidKinds := [.handle, .sentinel], laidTests := true, laidLooks := .later }
def FnFrameBadUptoCardSaid : Prop := Claim7.holds Tryd.pinned (.plain (OpenSpec.upto fnFrameBadSpec)) fnFrameBadUptoCard

/-- THE SECOND FORM's CARD OF 'laws.FnExactFrameRead'. -/
def fnExactFrameReadUptoCard : Claim7 := { stood := { row := fnExactFrameReadUptoRow, standIns := [], harness := (true, "d3cdd42af50a315f3c12d5e71fed3ad0d7231db41dec4a52ad0375991ca44e4e"), looks := true }, kinds := [], alts := [], laidByText := true, laidKinds := [.handle, .sentinel], laidTests := true, laidLooks := .later }
def FnExactFrameReadUptoCardSaid : Prop := Claim7.holds Tryd.pinned (.plain (OpenSpec.upto fnExactFrameReadSpec)) fnExactFrameReadUptoCard
end Rows
end Go.Proofs.YtmegdgkpdonikaaDoor
