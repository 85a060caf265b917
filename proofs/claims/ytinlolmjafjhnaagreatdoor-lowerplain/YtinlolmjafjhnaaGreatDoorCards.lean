/-
  DERIVED. GIVEN WITH THE SEED: THE CARDS: each row of YtinlolmjafjhnaaGreatDoorRows.lean that lists a variable, with what it lists TIED to the program's text (the seventh form; the later family's looks); each row that meets fmt, with fmt's text TOLD by the authors' own Lean function (tested against real Go, not proved from fmt's source: count such statements apart). THE CARD IS WHAT COUNTS. Prove the row's statement (the work); the ties are given (YtinlolmjafjhnaaGreatDoorTie.lean); close each card by the builder's one call (the guide's Derived/Test/ToyasCard.lean, 'card_holds'). Laid BY PROGRAM, IN A SANDBOX (cutbox-door.mjs). By AI agents, Wed Nov 11 2026. No macro, syntax, notation, axiom, sorry.
-/
import Derived.Test.YtinlolmjafjhnaaGreatDoorRows
import GoSem.ClaimSeven
namespace Go.Proofs.YtinlolmjafjhnaaGreatDoor
namespace Rows

/-- THE TIED CARD OF 'rubricatorlaw17.LowerPlain'. -/
def lowerPlainCard : Claim7 := { stood := { row := lowerPlainRow, standIns := [], harness := (true, "a59755cdadc51e5f339a64f2d02676af5c3fddcfdfc3e714c382c86230a1791e"), looks := true }, kinds := [], alts := [], laidByText := true, laidKinds := [.data, .data, .data, .data, .sentinel, .sentinel, .data, .listed, .data, .pinned, .pinned], laidTests := true, laidLooks := .later }
def LowerPlainCardSaid : Prop := Claim7.holds Tryz.pinned (.plain (OpenSpec.ofChange lowerPlainSpec)) lowerPlainCard

/-- THE TIED CARD OF 'rubricatorlaw17.LowerNobody'. -/
def lowerNobodyCard : Claim7 := { stood := { row := lowerNobodyRow, standIns := [], harness := (true, "a59755cdadc51e5f339a64f2d02676af5c3fddcfdfc3e714c382c86230a1791e"), looks := true }, kinds := [], alts := [], laidByText := true, laidKinds := [.data, .data, .data, .data, .sentinel, .sentinel, .data, .listed, .data, .pinned, .pinned], laidTests := true, laidLooks := .later }
def LowerNobodyCardSaid : Prop := Claim7.holds Tryz.pinned (.plain (OpenSpec.ofChange lowerNobodySpec)) lowerNobodyCard

/-- THE SECOND FORM's CARD OF 'rubricatorlaw17.LowerPlain'. -/
def lowerPlainUptoCard : Claim7 := { stood := { row := lowerPlainUptoRow, standIns := [], harness := (true, "a59755cdadc51e5f339a64f2d02676af5c3fddcfdfc3e714c382c86230a1791e"), looks := true }, kinds := [], alts := [], laidByText := true, laidKinds := [.data, .data, .data, .data, .sentinel, .sentinel, .data, .listed, .data, .pinned, .pinned], laidTests := true, laidLooks := .later }
def LowerPlainUptoCardSaid : Prop := Claim7.holds Tryz.pinned (.plain (OpenSpec.upto lowerPlainSpec)) lowerPlainUptoCard

/-- THE SECOND FORM's CARD OF 'rubricatorlaw17.LowerNobody'. -/
def lowerNobodyUptoCard : Claim7 := { stood := { row := lowerNobodyUptoRow, standIns := [], harness := (true, "a59755cdadc51e5f339a64f2d02676af5c3fddcfdfc3e714c382c86230a1791e"), looks := true }, kinds := [], alts := [], laidByText := true, laidKinds := [.data, .data, .data, .data, .sentinel, .sentinel, .data, .listed, .data, .pinned, .pinned], laidTests := true, laidLooks := .later }
def LowerNobodyUptoCardSaid : Prop := Claim7.holds Tryz.pinned (.plain (OpenSpec.upto lowerNobodySpec)) lowerNobodyUptoCard
end Rows
end Go.Proofs.YtinlolmjafjhnaaGreatDoor
