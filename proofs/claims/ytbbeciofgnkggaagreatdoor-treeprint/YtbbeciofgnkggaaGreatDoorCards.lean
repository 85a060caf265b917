/-
  DERIVED. GIVEN WITH THE SEED: THE CARDS: each row of YtbbeciofgnkggaaGreatDoorRows.lean that lists a variable, with what it lists TIED to the program's text (the seventh form; the later family's looks); each row that meets fmt, with fmt's text TOLD by the authors' own Lean function (tested against real Go, not proved from fmt's source: count such statements apart). THE CARD IS WHAT COUNTS. Prove the row's statement (the work); the ties are given (YtbbeciofgnkggaaGreatDoorTie.lean); close each card by the builder's one call (the guide's Derived/Test/ToyasCard.lean, 'card_holds'). Laid BY PROGRAM, IN A SANDBOX (cutbox-door.mjs). By AI agents, Wed Nov 11 2026. No macro, syntax, notation, axiom, sorry.
-/
import Derived.Test.YtbbeciofgnkggaaGreatDoorRows
import GoSem.ClaimSeven
namespace Go.Proofs.YtbbeciofgnkggaaGreatDoor
namespace Rows

/-- THE TIED CARD OF 'rubricatorlaw14.TreePrint'. -/
def treePrintCard : Claim7 := { stood := { row := treePrintRow, standIns := [], harness := (true, "539865e7fdcfedae67bcd898dde14ad30a90a6d4f0b4f26abcb3aa80368a5607"), looks := true }, kinds := [], alts := [], laidByText := true, laidKinds := [.data, .data, .data, .data, .data, .pinned, .pinned], laidTests := true, laidLooks := .later }
def TreePrintCardSaid : Prop := Claim7.holds Tryz.pinned (.plain (OpenSpec.ofChange treePrintSpec)) treePrintCard

/-- THE SECOND FORM's CARD OF 'rubricatorlaw14.TreePrint'. -/
def treePrintUptoCard : Claim7 := { stood := { row := treePrintUptoRow, standIns := [], harness := (true, "539865e7fdcfedae67bcd898dde14ad30a90a6d4f0b4f26abcb3aa80368a5607"), looks := true }, kinds := [], alts := [], laidByText := true, laidKinds := [.data, .data, .data, .data, .data, .pinned, .pinned], laidTests := true, laidLooks := .later }
def TreePrintUptoCardSaid : Prop := Claim7.holds Tryz.pinned (.plain (OpenSpec.upto treePrintSpec)) treePrintUptoCard
end Rows
end Go.Proofs.YtbbeciofgnkggaaGreatDoor
