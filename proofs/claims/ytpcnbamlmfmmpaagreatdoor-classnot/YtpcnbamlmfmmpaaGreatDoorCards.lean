/-
  DERIVED. GIVEN WITH THE SEED: THE CARDS: each row of YtpcnbamlmfmmpaaGreatDoorRows.lean that lists a variable, with what it lists TIED to the program's text (the seventh form; the later family's looks); each row that meets fmt, with fmt's text TOLD by the authors' own Lean function (tested against real Go, not proved from fmt's source: count such statements apart). THE CARD IS WHAT COUNTS. Prove the row's statement (the work); the ties are given (YtpcnbamlmfmmpaaGreatDoorTie.lean); close each card by the builder's one call (the guide's Derived/Test/ToyasCard.lean, 'card_holds'). Laid BY PROGRAM, IN A SANDBOX (cutbox-door.mjs). By AI agents, Wed Nov 11 2026. No macro, syntax, notation, axiom, sorry.
-/
import Derived.Test.YtpcnbamlmfmmpaaGreatDoorRows
import GoSem.ClaimSeven
namespace Go.Proofs.YtpcnbamlmfmmpaaGreatDoor
namespace Rows

/-- THE TIED CARD OF 'rubricatorlaw16.ClassTexts'. -/
def classTextsCard : Claim7 := { stood := { row := classTextsRow, standIns := [], harness := (true, "3384a5b7cbff8ef3b463e20bed3d592142b4f351e8d0d8d45762772268daf80e"), looks := true }, kinds := [], alts := [], laidByText := true, laidKinds := [.data, .data, .data, .data, .sentinel, .sentinel, .listed, .data, .pinned], laidTests := true, laidLooks := .later }
def ClassTextsCardSaid : Prop := Claim7.holds Tryz.pinned (.plain (OpenSpec.ofChange classTextsSpec)) classTextsCard

/-- THE TIED CARD OF 'rubricatorlaw16.ClassNot'. -/
def classNotCard : Claim7 := { stood := { row := classNotRow, standIns := [], harness := (true, "3384a5b7cbff8ef3b463e20bed3d592142b4f351e8d0d8d45762772268daf80e"), looks := true }, kinds := [], alts := [], laidByText := true, laidKinds := [.data, .data, .data, .data, .sentinel, .sentinel, .listed, .data, .pinned], laidTests := true, laidLooks := .later }
def ClassNotCardSaid : Prop := Claim7.holds Tryz.pinned (.plain (OpenSpec.ofChange classNotSpec)) classNotCard

/-- THE TIED CARD OF 'rubricatorlaw16.ClassSides'. -/
def classSidesCard : Claim7 := { stood := { row := classSidesRow, standIns := [], harness := (true, "3384a5b7cbff8ef3b463e20bed3d592142b4f351e8d0d8d45762772268daf80e"), looks := true }, kinds := [], alts := [], laidByText := true, laidKinds := [.data, .data, .data, .data, .sentinel, .sentinel, .listed, .data, .pinned], laidTests := true, laidLooks := .later }
def ClassSidesCardSaid : Prop := Claim7.holds Tryz.pinned (.plain (OpenSpec.ofChange classSidesSpec)) classSidesCard

/-- THE TIED CARD OF 'rubricatorlaw16.ClassNobody'. -/
def classNobodyCard : Claim7 := { stood := { row := classNobodyRow, standIns := [], harness := (true, "3384a5b7cbff8ef3b463e20bed3d592142b4f351e8d0d8d45762772268daf80e"), looks := true }, kinds := [], alts := [], laidByText := true, laidKinds := [.data, .data, .data, .data, .sentinel, .sentinel, .listed, .data, .pinned], laidTests := true, laidLooks := .later }
def ClassNobodyCardSaid : Prop := Claim7.holds Tryz.pinned (.plain (OpenSpec.ofChange classNobodySpec)) classNobodyCard

/-- THE SECOND FORM's CARD OF 'rubricatorlaw16.ClassTexts'. -/
def classTextsUptoCard : Claim7 := { stood := { row := classTextsUptoRow, standIns := [], harness := (true, "3384a5b7cbff8ef3b463e20bed3d592142b4f351e8d0d8d45762772268daf80e"), looks := true }, kinds := [], alts := [], laidByText := true, laidKinds := [.data, .data, .data, .data, .sentinel, .sentinel, .listed, .data, .pinned], laidTests := true, laidLooks := .later }
def ClassTextsUptoCardSaid : Prop := Claim7.holds Tryz.pinned (.plain (OpenSpec.upto classTextsSpec)) classTextsUptoCard

/-- THE SECOND FORM's CARD OF 'rubricatorlaw16.ClassNot'. -/
def classNotUptoCard : Claim7 := { stood := { row := classNotUptoRow, standIns := [], harness := (true, "3384a5b7cbff8ef3b463e20bed3d592142b4f351e8d0d8d45762772268daf80e"), looks := true }, kinds := [], alts := [], laidByText := true, laidKinds := [.data, .data, .data, .data, .sentinel, .sentinel, .listed, .data, .pinned], laidTests := true, laidLooks := .later }
def ClassNotUptoCardSaid : Prop := Claim7.holds Tryz.pinned (.plain (OpenSpec.upto classNotSpec)) classNotUptoCard

/-- THE SECOND FORM's CARD OF 'rubricatorlaw16.ClassSides'. -/
def classSidesUptoCard : Claim7 := { stood := { row := classSidesUptoRow, standIns := [], harness := (true, "3384a5b7cbff8ef3b463e20bed3d592142b4f351e8d0d8d45762772268daf80e"), looks := true }, kinds := [], alts := [], laidByText := true, laidKinds := [.data, .data, .data, .data, .sentinel, .sentinel, .listed, .data, .pinned], laidTests := true, laidLooks := .later }
def ClassSidesUptoCardSaid : Prop := Claim7.holds Tryz.pinned (.plain (OpenSpec.upto classSidesSpec)) classSidesUptoCard

/-- THE SECOND FORM's CARD OF 'rubricatorlaw16.ClassNobody'. -/
def classNobodyUptoCard : Claim7 := { stood := { row := classNobodyUptoRow, standIns := [], harness := (true, "3384a5b7cbff8ef3b463e20bed3d592142b4f351e8d0d8d45762772268daf80e"), looks := true }, kinds := [], alts := [], laidByText := true, laidKinds := [.data, .data, .data, .data, .sentinel, .sentinel, .listed, .data, .pinned], laidTests := true, laidLooks := .later }
def ClassNobodyUptoCardSaid : Prop := Claim7.holds Tryz.pinned (.plain (OpenSpec.upto classNobodySpec)) classNobodyUptoCard
end Rows
end Go.Proofs.YtpcnbamlmfmmpaaGreatDoor
