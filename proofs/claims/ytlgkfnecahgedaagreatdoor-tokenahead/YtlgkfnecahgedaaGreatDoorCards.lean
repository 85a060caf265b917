/-
  DERIVED. GIVEN WITH THE SEED: THE CARDS: each row of YtlgkfnecahgedaaGreatDoorRows.lean that lists a variable, with what it lists TIED to the program's text (the seventh form; the later family's looks); each row that meets fmt, with fmt's text TOLD by the authors' own Lean function (tested against real Go, not proved from fmt's source: count such statements apart). THE CARD IS WHAT COUNTS. Prove the row's statement (the work); the ties are given (YtlgkfnecahgedaaGreatDoorTie.lean); close each card by the builder's one call (the guide's Derived/Test/ToyasCard.lean, 'card_holds'). Laid BY PROGRAM, IN A SANDBOX (cutbox-door.mjs). By AI agents, Wed Nov 11 2026. No macro, syntax, notation, axiom, sorry.
-/
import Derived.Test.YtlgkfnecahgedaaGreatDoorRows
import GoSem.ClaimSeven
namespace Go.Proofs.YtlgkfnecahgedaaGreatDoor
namespace Rows

/-- THE TIED CARD OF 'rubricatorlaw13.TokenScan'. -/
def tokenScanCard : Claim7 := { stood := { row := tokenScanRow, standIns := [], harness := (true, "f35da3f7dd3e995a173a1871cddb5e1c007c1b4ed91b16cddc7f0ed50f8002c0"), looks := true }, kinds := [], alts := [], laidByText := true, laidKinds := [.data, .data, .pinned], laidTests := true, laidLooks := .later }
def TokenScanCardSaid : Prop := Claim7.holds Tryz.pinned (.plain (OpenSpec.ofChange tokenScanSpec)) tokenScanCard

/-- THE TIED CARD OF 'rubricatorlaw13.TokenPrint'. -/
def tokenPrintCard : Claim7 := { stood := { row := tokenPrintRow, standIns := [], harness := (true, "f35da3f7dd3e995a173a1871cddb5e1c007c1b4ed91b16cddc7f0ed50f8002c0"), looks := true }, kinds := [], alts := [], laidByText := true, laidKinds := [.data, .data, .data, .data, .data, .pinned, .pinned], laidTests := true, laidLooks := .later }
def TokenPrintCardSaid : Prop := Claim7.holds Tryz.pinned (.plain (OpenSpec.ofChange tokenPrintSpec)) tokenPrintCard

/-- THE TIED CARD OF 'rubricatorlaw13.TokenBack'. -/
def tokenBackCard : Claim7 := { stood := { row := tokenBackRow, standIns := [], harness := (true, "f35da3f7dd3e995a173a1871cddb5e1c007c1b4ed91b16cddc7f0ed50f8002c0"), looks := true }, kinds := [], alts := [], laidByText := true, laidKinds := [.data, .data, .data, .data, .data, .pinned, .pinned], laidTests := true, laidLooks := .later }
def TokenBackCardSaid : Prop := Claim7.holds Tryz.pinned (.plain (OpenSpec.ofChange tokenBackSpec)) tokenBackCard

/-- THE TIED CARD OF 'rubricatorlaw13.TokenAhead'. -/
def tokenAheadCard : Claim7 := { stood := { row := tokenAheadRow, standIns := [], harness := (true, "f35da3f7dd3e995a173a1871cddb5e1c007c1b4ed91b16cddc7f0ed50f8002c0"), looks := true }, kinds := [], alts := [], laidByText := true, laidKinds := [.data, .data, .pinned], laidTests := true, laidLooks := .later }
def TokenAheadCardSaid : Prop := Claim7.holds Tryz.pinned (.plain (OpenSpec.ofChange tokenAheadSpec)) tokenAheadCard

/-- THE TIED CARD OF 'rubricatorlaw13.TokenProps'. -/
def tokenPropsCard : Claim7 := { stood := { row := tokenPropsRow, standIns := [], harness := (true, "f35da3f7dd3e995a173a1871cddb5e1c007c1b4ed91b16cddc7f0ed50f8002c0"), looks := true }, kinds := [], alts := [], laidByText := true, laidKinds := [.data, .data, .pinned], laidTests := true, laidLooks := .later }
def TokenPropsCardSaid : Prop := Claim7.holds Tryz.pinned (.plain (OpenSpec.ofChange tokenPropsSpec)) tokenPropsCard

/-- THE SECOND FORM's CARD OF 'rubricatorlaw13.TokenScan'. -/
def tokenScanUptoCard : Claim7 := { stood := { row := tokenScanUptoRow, standIns := [], harness := (true, "f35da3f7dd3e995a173a1871cddb5e1c007c1b4ed91b16cddc7f0ed50f8002c0"), looks := true }, kinds := [], alts := [], laidByText := true, laidKinds := [.data, .data, .pinned], laidTests := true, laidLooks := .later }
def TokenScanUptoCardSaid : Prop := Claim7.holds Tryz.pinned (.plain (OpenSpec.upto tokenScanSpec)) tokenScanUptoCard

/-- THE SECOND FORM's CARD OF 'rubricatorlaw13.TokenPrint'. -/
def tokenPrintUptoCard : Claim7 := { stood := { row := tokenPrintUptoRow, standIns := [], harness := (true, "f35da3f7dd3e995a173a1871cddb5e1c007c1b4ed91b16cddc7f0ed50f8002c0"), looks := true }, kinds := [], alts := [], laidByText := true, laidKinds := [.data, .data, .data, .data, .data, .pinned, .pinned], laidTests := true, laidLooks := .later }
def TokenPrintUptoCardSaid : Prop := Claim7.holds Tryz.pinned (.plain (OpenSpec.upto tokenPrintSpec)) tokenPrintUptoCard

/-- THE SECOND FORM's CARD OF 'rubricatorlaw13.TokenBack'. -/
def tokenBackUptoCard : Claim7 := { stood := { row := tokenBackUptoRow, standIns := [], harness := (true, "f35da3f7dd3e995a173a1871cddb5e1c007c1b4ed91b16cddc7f0ed50f8002c0"), looks := true }, kinds := [], alts := [], laidByText := true, laidKinds := [.data, .data, .data, .data, .data, .pinned, .pinned], laidTests := true, laidLooks := .later }
def TokenBackUptoCardSaid : Prop := Claim7.holds Tryz.pinned (.plain (OpenSpec.upto tokenBackSpec)) tokenBackUptoCard

/-- THE SECOND FORM's CARD OF 'rubricatorlaw13.TokenAhead'. -/
def tokenAheadUptoCard : Claim7 := { stood := { row := tokenAheadUptoRow, standIns := [], harness := (true, "f35da3f7dd3e995a173a1871cddb5e1c007c1b4ed91b16cddc7f0ed50f8002c0"), looks := true }, kinds := [], alts := [], laidByText := true, laidKinds := [.data, .data, .pinned], laidTests := true, laidLooks := .later }
def TokenAheadUptoCardSaid : Prop := Claim7.holds Tryz.pinned (.plain (OpenSpec.upto tokenAheadSpec)) tokenAheadUptoCard

/-- THE SECOND FORM's CARD OF 'rubricatorlaw13.TokenProps'. -/
def tokenPropsUptoCard : Claim7 := { stood := { row := tokenPropsUptoRow, standIns := [], harness := (true, "f35da3f7dd3e995a173a1871cddb5e1c007c1b4ed91b16cddc7f0ed50f8002c0"), looks := true }, kinds := [], alts := [], laidByText := true, laidKinds := [.data, .data, .pinned], laidTests := true, laidLooks := .later }
def TokenPropsUptoCardSaid : Prop := Claim7.holds Tryz.pinned (.plain (OpenSpec.upto tokenPropsSpec)) tokenPropsUptoCard
end Rows
end Go.Proofs.YtlgkfnecahgedaaGreatDoor
