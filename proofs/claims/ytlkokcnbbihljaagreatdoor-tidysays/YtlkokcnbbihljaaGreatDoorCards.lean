/-
  DERIVED. GIVEN WITH THE SEED: THE CARDS: each row of YtlkokcnbbihljaaGreatDoorRows.lean that lists a variable, with what it lists TIED to the program's text (the seventh form; the later family's looks); each row that meets fmt, with fmt's text TOLD by the authors' own Lean function (tested against real Go, not proved from fmt's source: count such statements apart). THE CARD IS WHAT COUNTS. Prove the row's statement (the work); the ties are given (YtlkokcnbbihljaaGreatDoorTie.lean); close each card by the builder's one call (the guide's Derived/Test/ToyasCard.lean, 'card_holds'). Laid BY PROGRAM, IN A SANDBOX (cutbox-door.mjs). By AI agents, Wed Nov 11 2026. No macro, syntax, notation, axiom, sorry.
-/
import Derived.Test.YtlkokcnbbihljaaGreatDoorRows
import GoSem.ClaimSeven
namespace Go.Proofs.YtlkokcnbbihljaaGreatDoor
namespace Rows

/-- THE TIED CARD OF 'oberlinlaw.PrintSays'. -/
def printSaysCard : Claim7 := { stood := { row := printSaysRow, standIns := [], harness := (true, "31f2735e8fcaa62b7cf99478caf7be25ac1e5b8861e372fb71e5404636b50acb"), looks := true }, kinds := [], alts := [], laidByText := true, laidKinds := [.data, .data, .data, .handle, .widerDeep, .listed, .data], laidTests := true, laidLooks := .later }
def PrintSaysCardSaid : Prop := Claim7.holds Tryz.pinned (.plain (OpenSpec.ofChange printSaysSpec)) printSaysCard

/-- THE TIED CARD OF 'oberlinlaw.TidySays'. -/
def tidySaysCard : Claim7 := { stood := { row := tidySaysRow, standIns := [], harness := (true, "31f2735e8fcaa62b7cf99478caf7be25ac1e5b8861e372fb71e5404636b50acb"), looks := true }, kinds := [], alts := [], laidByText := true, laidKinds := [.handle, .widerDeep, .listed, .data], laidTests := true, laidLooks := .later }
def TidySaysCardSaid : Prop := Claim7.holds Tryz.pinned (.plain (OpenSpec.ofChange tidySaysSpec)) tidySaysCard

/-- THE SECOND FORM's CARD OF 'oberlinlaw.PrintSays'. -/
def printSaysUptoCard : Claim7 := { stood := { row := printSaysUptoRow, standIns := [], harness := (true, "31f2735e8fcaa62b7cf99478caf7be25ac1e5b8861e372fb71e5404636b50acb"), looks := true }, kinds := [], alts := [], laidByText := true, laidKinds := [.data, .data, .data, .handle, .widerDeep, .listed, .data], laidTests := true, laidLooks := .later }
def PrintSaysUptoCardSaid : Prop := Claim7.holds Tryz.pinned (.plain (OpenSpec.upto printSaysSpec)) printSaysUptoCard

/-- THE SECOND FORM's CARD OF 'oberlinlaw.TidySays'. -/
def tidySaysUptoCard : Claim7 := { stood := { row := tidySaysUptoRow, standIns := [], harness := (true, "31f2735e8fcaa62b7cf99478caf7be25ac1e5b8861e372fb71e5404636b50acb"), looks := true }, kinds := [], alts := [], laidByText := true, laidKinds := [.handle, .widerDeep, .listed, .data], laidTests := true, laidLooks := .later }
def TidySaysUptoCardSaid : Prop := Claim7.holds Tryz.pinned (.plain (OpenSpec.upto tidySaysSpec)) tidySaysUptoCard
end Rows
end Go.Proofs.YtlkokcnbbihljaaGreatDoor
