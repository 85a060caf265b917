/-
  DERIVED. GIVEN WITH THE SEED: THE CARDS: each row of YtcmhkfiijdomiaaGreatDoorRows.lean that lists a variable, with what it lists TIED to the program's text (the seventh form; the later family's looks); each row that meets fmt, with fmt's text TOLD by the authors' own Lean function (tested against real Go, not proved from fmt's source: count such statements apart). THE CARD IS WHAT COUNTS. Prove the row's statement (the work); the ties are given (YtcmhkfiijdomiaaGreatDoorTie.lean); close each card by the builder's one call (the guide's Derived/Test/ToyasCard.lean, 'card_holds'). Laid BY PROGRAM, IN A SANDBOX (cutbox-door.mjs). By AI agents, Wed Nov 11 2026. No macro, syntax, notation, axiom, sorry.
-/
import Derived.Test.YtcmhkfiijdomiaaGreatDoorRows
import GoSem.ClaimSeven
namespace Go.Proofs.YtcmhkfiijdomiaaGreatDoor
namespace Rows

/-- THE TIED CARD OF 'rubricatorlaw11.WordEdges'. -/
def wordEdgesCard : Claim7 := { stood := { row := wordEdgesRow, standIns := [], harness := (true, "d6ccfcb74f4e66f80ad23ddee5d0b33294f23de9eb1717915865c36c454674e2"), looks := true }, kinds := [], alts := [], laidByText := true, laidKinds := [.data, .data, .data, .data, .sentinel, .sentinel, .listed, .data, .pinned], laidTests := true, laidLooks := .later }
def WordEdgesCardSaid : Prop := Claim7.holds Tryz.pinned (.plain (OpenSpec.ofChange wordEdgesSpec)) wordEdgesCard

/-- THE TIED CARD OF 'rubricatorlaw11.WordSimple'. -/
def wordSimpleCard : Claim7 := { stood := { row := wordSimpleRow, standIns := [], harness := (true, "d6ccfcb74f4e66f80ad23ddee5d0b33294f23de9eb1717915865c36c454674e2"), looks := true }, kinds := [], alts := [], laidByText := true, laidKinds := [.data, .data, .data, .data, .sentinel, .sentinel, .listed, .data, .pinned], laidTests := true, laidLooks := .later }
def WordSimpleCardSaid : Prop := Claim7.holds Tryz.pinned (.plain (OpenSpec.ofChange wordSimpleSpec)) wordSimpleCard

/-- THE TIED CARD OF 'rubricatorlaw11.WordLetters'. -/
def wordLettersCard : Claim7 := { stood := { row := wordLettersRow, standIns := [], harness := (true, "d6ccfcb74f4e66f80ad23ddee5d0b33294f23de9eb1717915865c36c454674e2"), looks := true }, kinds := [], alts := [], laidByText := true, laidKinds := [.data, .data, .data, .data, .sentinel, .sentinel, .listed, .data, .pinned], laidTests := true, laidLooks := .later }
def WordLettersCardSaid : Prop := Claim7.holds Tryz.pinned (.plain (OpenSpec.ofChange wordLettersSpec)) wordLettersCard

/-- THE TIED CARD OF 'rubricatorlaw11.WordMarks'. -/
def wordMarksCard : Claim7 := { stood := { row := wordMarksRow, standIns := [], harness := (true, "d6ccfcb74f4e66f80ad23ddee5d0b33294f23de9eb1717915865c36c454674e2"), looks := true }, kinds := [], alts := [], laidByText := true, laidKinds := [.data, .data, .data, .data, .sentinel, .sentinel, .listed, .data, .pinned], laidTests := true, laidLooks := .later }
def WordMarksCardSaid : Prop := Claim7.holds Tryz.pinned (.plain (OpenSpec.ofChange wordMarksSpec)) wordMarksCard

/-- THE TIED CARD OF 'rubricatorlaw11.WordLines'. -/
def wordLinesCard : Claim7 := { stood := { row := wordLinesRow, standIns := [], harness := (true, "d6ccfcb74f4e66f80ad23ddee5d0b33294f23de9eb1717915865c36c454674e2"), looks := true }, kinds := [], alts := [], laidByText := true, laidKinds := [.data, .data, .data, .data, .sentinel, .sentinel, .listed, .data, .pinned], laidTests := true, laidLooks := .later }
def WordLinesCardSaid : Prop := Claim7.holds Tryz.pinned (.plain (OpenSpec.ofChange wordLinesSpec)) wordLinesCard

/-- THE TIED CARD OF 'rubricatorlaw11.WordNobody'. -/
def wordNobodyCard : Claim7 := { stood := { row := wordNobodyRow, standIns := [], harness := (true, "d6ccfcb74f4e66f80ad23ddee5d0b33294f23de9eb1717915865c36c454674e2"), looks := true }, kinds := [], alts := [], laidByText := true, laidKinds := [.data, .data, .data, .data, .sentinel, .sentinel, .listed, .data, .pinned], laidTests := true, laidLooks := .later }
def WordNobodyCardSaid : Prop := Claim7.holds Tryz.pinned (.plain (OpenSpec.ofChange wordNobodySpec)) wordNobodyCard

/-- THE SECOND FORM's CARD OF 'rubricatorlaw11.WordEdges'. -/
def wordEdgesUptoCard : Claim7 := { stood := { row := wordEdgesUptoRow, standIns := [], harness := (true, "d6ccfcb74f4e66f80ad23ddee5d0b33294f23de9eb1717915865c36c454674e2"), looks := true }, kinds := [], alts := [], laidByText := true, laidKinds := [.data, .data, .data, .data, .sentinel, .sentinel, .listed, .data, .pinned], laidTests := true, laidLooks := .later }
def WordEdgesUptoCardSaid : Prop := Claim7.holds Tryz.pinned (.plain (OpenSpec.upto wordEdgesSpec)) wordEdgesUptoCard

/-- THE SECOND FORM's CARD OF 'rubricatorlaw11.WordSimple'. -/
def wordSimpleUptoCard : Claim7 := { stood := { row := wordSimpleUptoRow, standIns := [], harness := (true, "d6ccfcb74f4e66f80ad23ddee5d0b33294f23de9eb1717915865c36c454674e2"), looks := true }, kinds := [], alts := [], laidByText := true, laidKinds := [.data, .data, .data, .data, .sentinel, .sentinel, .listed, .data, .pinned], laidTests := true, laidLooks := .later }
def WordSimpleUptoCardSaid : Prop := Claim7.holds Tryz.pinned (.plain (OpenSpec.upto wordSimpleSpec)) wordSimpleUptoCard

/-- THE SECOND FORM's CARD OF 'rubricatorlaw11.WordLetters'. -/
def wordLettersUptoCard : Claim7 := { stood := { row := wordLettersUptoRow, standIns := [], harness := (true, "d6ccfcb74f4e66f80ad23ddee5d0b33294f23de9eb1717915865c36c454674e2"), looks := true }, kinds := [], alts := [], laidByText := true, laidKinds := [.data, .data, .data, .data, .sentinel, .sentinel, .listed, .data, .pinned], laidTests := true, laidLooks := .later }
def WordLettersUptoCardSaid : Prop := Claim7.holds Tryz.pinned (.plain (OpenSpec.upto wordLettersSpec)) wordLettersUptoCard

/-- THE SECOND FORM's CARD OF 'rubricatorlaw11.WordMarks'. -/
def wordMarksUptoCard : Claim7 := { stood := { row := wordMarksUptoRow, standIns := [], harness := (true, "d6ccfcb74f4e66f80ad23ddee5d0b33294f23de9eb1717915865c36c454674e2"), looks := true }, kinds := [], alts := [], laidByText := true, laidKinds := [.data, .data, .data, .data, .sentinel, .sentinel, .listed, .data, .pinned], laidTests := true, laidLooks := .later }
def WordMarksUptoCardSaid : Prop := Claim7.holds Tryz.pinned (.plain (OpenSpec.upto wordMarksSpec)) wordMarksUptoCard

/-- THE SECOND FORM's CARD OF 'rubricatorlaw11.WordLines'. -/
def wordLinesUptoCard : Claim7 := { stood := { row := wordLinesUptoRow, standIns := [], harness := (true, "d6ccfcb74f4e66f80ad23ddee5d0b33294f23de9eb1717915865c36c454674e2"), looks := true }, kinds := [], alts := [], laidByText := true, laidKinds := [.data, .data, .data, .data, .sentinel, .sentinel, .listed, .data, .pinned], laidTests := true, laidLooks := .later }
def WordLinesUptoCardSaid : Prop := Claim7.holds Tryz.pinned (.plain (OpenSpec.upto wordLinesSpec)) wordLinesUptoCard

/-- THE SECOND FORM's CARD OF 'rubricatorlaw11.WordNobody'. -/
def wordNobodyUptoCard : Claim7 := { stood := { row := wordNobodyUptoRow, standIns := [], harness := (true, "d6ccfcb74f4e66f80ad23ddee5d0b33294f23de9eb1717915865c36c454674e2"), looks := true }, kinds := [], alts := [], laidByText := true, laidKinds := [.data, .data, .data, .data, .sentinel, .sentinel, .listed, .data, .pinned], laidTests := true, laidLooks := .later }
def WordNobodyUptoCardSaid : Prop := Claim7.holds Tryz.pinned (.plain (OpenSpec.upto wordNobodySpec)) wordNobodyUptoCard
end Rows
end Go.Proofs.YtcmhkfiijdomiaaGreatDoor
