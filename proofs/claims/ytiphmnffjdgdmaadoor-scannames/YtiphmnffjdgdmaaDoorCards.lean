/-
  DERIVED. GIVEN WITH THE SEED: THE CARDS: each row of YtiphmnffjdgdmaaDoorRows.lean that lists a variable, with what it lists TIED to the program's text (the seventh form; the later family's looks); each row that meets fmt, with fmt's text TOLD by the authors' own Lean function (tested against real Go, not proved from fmt's source: count such statements apart). THE CARD IS WHAT COUNTS. Prove the row's statement (the work); the ties are given (YtiphmnffjdgdmaaDoorTie.lean); close each card by the builder's one call (the guide's Derived/Test/ToyasCard.lean, 'card_holds'). Laid BY PROGRAM, IN A SANDBOX (cutbox-door.mjs). By AI agents, Wed Nov 11 2026. No macro, syntax, notation, axiom, sorry.
-/
import Derived.Test.YtiphmnffjdgdmaaDoorRows
import GoSem.ClaimSeven
namespace Go.Proofs.YtiphmnffjdgdmaaDoor
namespace Rows

/-- THE TIED CARD OF 'oberlinlaw.Names'. -/
def namesCard : Claim7 := { stood := { row := namesRow, standIns := [], harness := (true, "8a968f1c94e56488652c4553c5368b4157d570188eda88846bbc13b9282c08a5"), looks := true }, kinds := [], alts := [], laidByText := true, laidKinds := [.handle], laidTests := true, laidLooks := .later }
def NamesCardSaid : Prop := Claim7.holds Tryd.pinned (.plain (OpenSpec.ofChange namesSpec)) namesCard

/-- THE TIED CARD OF 'oberlinlaw.ScanSays'. -/
def scanSaysCard : Claim7 := { stood := { row := scanSaysRow, standIns := [], harness := (true, "8a968f1c94e56488652c4553c5368b4157d570188eda88846bbc13b9282c08a5"), looks := true }, kinds := [], alts := [], laidByText := true, laidKinds := [.handle], laidTests := true, laidLooks := .later }
def ScanSaysCardSaid : Prop := Claim7.holds Tryd.pinned (.plain (OpenSpec.ofChange scanSaysSpec)) scanSaysCard

/-- THE TIED CARD OF 'oberlinlaw.ScanNames'. -/
def scanNamesCard : Claim7 := { stood := { row := scanNamesRow, standIns := [], harness := (true, "8a968f1c94e56488652c4553c5368b4157d570188eda88846bbc13b9282c08a5"), looks := true }, kinds := [], alts := [], laidByText := true, laidKinds := [.widerDeep, .listed, .data], laidTests := true, laidLooks := .later }
def ScanNamesCardSaid : Prop := Claim7.holds Tryd.pinned (.plain (OpenSpec.ofChange scanNamesSpec)) scanNamesCard

/-- THE SECOND FORM's CARD OF 'oberlinlaw.Names'. -/
def namesUptoCard : Claim7 := { stood := { row := namesUptoRow, standIns := [], harness := (true, "8a968f1c94e56488652c4553c5368b4157d570188eda88846bbc13b9282c08a5"), looks := true }, kinds := [], alts := [], laidByText := true, laidKinds := [.handle], laidTests := true, laidLooks := .later }
def NamesUptoCardSaid : Prop := Claim7.holds Tryd.pinned (.plain (OpenSpec.upto namesSpec)) namesUptoCard

/-- THE SECOND FORM's CARD OF 'oberlinlaw.ScanSays'. -/
def scanSaysUptoCard : Claim7 := { stood := { row := scanSaysUptoRow, standIns := [], harness := (true, "8a968f1c94e56488652c4553c5368b4157d570188eda88846bbc13b9282c08a5"), looks := true }, kinds := [], alts := [], laidByText := true, laidKinds := [.handle], laidTests := true, laidLooks := .later }
def ScanSaysUptoCardSaid : Prop := Claim7.holds Tryd.pinned (.plain (OpenSpec.upto scanSaysSpec)) scanSaysUptoCard

/-- THE SECOND FORM's CARD OF 'oberlinlaw.ScanNames'. -/
def scanNamesUptoCard : Claim7 := { stood := { row := scanNamesUptoRow, standIns := [], harness := (true, "8a968f1c94e56488652c4553c5368b4157d570188eda88846bbc13b9282c08a5"), looks := true }, kinds := [], alts := [], laidByText := true, laidKinds := [.widerDeep, .listed, .data], laidTests := true, laidLooks := .later }
def ScanNamesUptoCardSaid : Prop := Claim7.holds Tryd.pinned (.plain (OpenSpec.upto scanNamesSpec)) scanNamesUptoCard
end Rows
end Go.Proofs.YtiphmnffjdgdmaaDoor
