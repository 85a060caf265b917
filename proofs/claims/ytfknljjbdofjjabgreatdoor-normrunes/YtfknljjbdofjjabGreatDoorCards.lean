/-
  DERIVED. GIVEN WITH THE SEED: THE CARDS: each row of YtfknljjbdofjjabGreatDoorRows.lean that lists a variable, with what it lists TIED to the program's text (the seventh form; the later family's looks); each row that meets fmt, with fmt's text TOLD by the authors' own Lean function (tested against real Go, not proved from fmt's source: count such statements apart). THE CARD IS WHAT COUNTS. Prove the row's statement (the work); the ties are given (YtfknljjbdofjjabGreatDoorTie.lean); close each card by the builder's one call (the guide's Derived/Test/ToyasCard.lean, 'card_holds'). Laid BY PROGRAM, IN A SANDBOX (cutbox-door.mjs). By AI agents, Wed Nov 11 2026. No macro, syntax, notation, axiom, sorry.
-/
import Derived.Test.YtfknljjbdofjjabGreatDoorRows
import GoSem.ClaimSeven
namespace Go.Proofs.YtfknljjbdofjjabGreatDoor
namespace Rows

/-- THE TIED CARD OF 'rubricatorlaw08.NormRunes'. -/
def normRunesCard : Claim7 := { stood := { row := normRunesRow, standIns := [], harness := (true, "4d52aa2df9cc23931173f065464594394bde5d48c27731918e37f8fcc46f4659"), looks := true }, kinds := [], alts := [], laidByText := true, laidKinds := [.data, .data, .data, .data, .sentinel, .sentinel, .listed, .data, .pinned], laidTests := true, laidLooks := .later }
def NormRunesCardSaid : Prop := Claim7.holds Tryz.pinned (.plain (OpenSpec.ofChange normRunesSpec)) normRunesCard

/-- THE TIED CARD OF 'rubricatorlaw08.NormTwice'. -/
def normTwiceCard : Claim7 := { stood := { row := normTwiceRow, standIns := [], harness := (true, "4d52aa2df9cc23931173f065464594394bde5d48c27731918e37f8fcc46f4659"), looks := true }, kinds := [], alts := [], laidByText := true, laidKinds := [.data, .data, .data, .data, .sentinel, .sentinel, .listed, .data, .pinned], laidTests := true, laidLooks := .later }
def NormTwiceCardSaid : Prop := Claim7.holds Tryz.pinned (.plain (OpenSpec.ofChange normTwiceSpec)) normTwiceCard

/-- THE TIED CARD OF 'rubricatorlaw08.NormJoins'. -/
def normJoinsCard : Claim7 := { stood := { row := normJoinsRow, standIns := [], harness := (true, "4d52aa2df9cc23931173f065464594394bde5d48c27731918e37f8fcc46f4659"), looks := true }, kinds := [], alts := [], laidByText := true, laidKinds := [.data, .data, .data, .data, .sentinel, .sentinel, .listed, .data, .pinned], laidTests := true, laidLooks := .later }
def NormJoinsCardSaid : Prop := Claim7.holds Tryz.pinned (.plain (OpenSpec.ofChange normJoinsSpec)) normJoinsCard

/-- THE TIED CARD OF 'rubricatorlaw08.NormOrders'. -/
def normOrdersCard : Claim7 := { stood := { row := normOrdersRow, standIns := [], harness := (true, "4d52aa2df9cc23931173f065464594394bde5d48c27731918e37f8fcc46f4659"), looks := true }, kinds := [], alts := [], laidByText := true, laidKinds := [.data, .data, .data, .data, .sentinel, .sentinel, .listed, .data, .pinned], laidTests := true, laidLooks := .later }
def NormOrdersCardSaid : Prop := Claim7.holds Tryz.pinned (.plain (OpenSpec.ofChange normOrdersSpec)) normOrdersCard

/-- THE TIED CARD OF 'rubricatorlaw08.NormKeeps'. -/
def normKeepsCard : Claim7 := { stood := { row := normKeepsRow, standIns := [], harness := (true, "4d52aa2df9cc23931173f065464594394bde5d48c27731918e37f8fcc46f4659"), looks := true }, kinds := [], alts := [], laidByText := true, laidKinds := [.data, .data, .data, .data, .sentinel, .sentinel, .listed, .data, .pinned], laidTests := true, laidLooks := .later }
def NormKeepsCardSaid : Prop := Claim7.holds Tryz.pinned (.plain (OpenSpec.ofChange normKeepsSpec)) normKeepsCard

/-- THE TIED CARD OF 'rubricatorlaw08.NormNobody'. -/
def normNobodyCard : Claim7 := { stood := { row := normNobodyRow, standIns := [], harness := (true, "4d52aa2df9cc23931173f065464594394bde5d48c27731918e37f8fcc46f4659"), looks := true }, kinds := [], alts := [], laidByText := true, laidKinds := [.data, .data, .data, .data, .sentinel, .sentinel, .listed, .data, .pinned], laidTests := true, laidLooks := .later }
def NormNobodyCardSaid : Prop := Claim7.holds Tryz.pinned (.plain (OpenSpec.ofChange normNobodySpec)) normNobodyCard

/-- THE SECOND FORM's CARD OF 'rubricatorlaw08.NormRunes'. -/
def normRunesUptoCard : Claim7 := { stood := { row := normRunesUptoRow, standIns := [], harness := (true, "4d52aa2df9cc23931173f065464594394bde5d48c27731918e37f8fcc46f4659"), looks := true }, kinds := [], alts := [], laidByText := true, laidKinds := [.data, .data, .data, .data, .sentinel, .sentinel, .listed, .data, .pinned], laidTests := true, laidLooks := .later }
def NormRunesUptoCardSaid : Prop := Claim7.holds Tryz.pinned (.plain (OpenSpec.upto normRunesSpec)) normRunesUptoCard

/-- THE SECOND FORM's CARD OF 'rubricatorlaw08.NormTwice'. -/
def normTwiceUptoCard : Claim7 := { stood := { row := normTwiceUptoRow, standIns := [], harness := (true, "4d52aa2df9cc23931173f065464594394bde5d48c27731918e37f8fcc46f4659"), looks := true }, kinds := [], alts := [], laidByText := true, laidKinds := [.data, .data, .data, .data, .sentinel, .sentinel, .listed, .data, .pinned], laidTests := true, laidLooks := .later }
def NormTwiceUptoCardSaid : Prop := Claim7.holds Tryz.pinned (.plain (OpenSpec.upto normTwiceSpec)) normTwiceUptoCard

/-- THE SECOND FORM's CARD OF 'rubricatorlaw08.NormJoins'. -/
def normJoinsUptoCard : Claim7 := { stood := { row := normJoinsUptoRow, standIns := [], harness := (true, "4d52aa2df9cc23931173f065464594394bde5d48c27731918e37f8fcc46f4659"), looks := true }, kinds := [], alts := [], laidByText := true, laidKinds := [.data, .data, .data, .data, .sentinel, .sentinel, .listed, .data, .pinned], laidTests := true, laidLooks := .later }
def NormJoinsUptoCardSaid : Prop := Claim7.holds Tryz.pinned (.plain (OpenSpec.upto normJoinsSpec)) normJoinsUptoCard

/-- THE SECOND FORM's CARD OF 'rubricatorlaw08.NormOrders'. -/
def normOrdersUptoCard : Claim7 := { stood := { row := normOrdersUptoRow, standIns := [], harness := (true, "4d52aa2df9cc23931173f065464594394bde5d48c27731918e37f8fcc46f4659"), looks := true }, kinds := [], alts := [], laidByText := true, laidKinds := [.data, .data, .data, .data, .sentinel, .sentinel, .listed, .data, .pinned], laidTests := true, laidLooks := .later }
def NormOrdersUptoCardSaid : Prop := Claim7.holds Tryz.pinned (.plain (OpenSpec.upto normOrdersSpec)) normOrdersUptoCard

/-- THE SECOND FORM's CARD OF 'rubricatorlaw08.NormKeeps'. -/
def normKeepsUptoCard : Claim7 := { stood := { row := normKeepsUptoRow, standIns := [], harness := (true, "4d52aa2df9cc23931173f065464594394bde5d48c27731918e37f8fcc46f4659"), looks := true }, kinds := [], alts := [], laidByText := true, laidKinds := [.data, .data, .data, .data, .sentinel, .sentinel, .listed, .data, .pinned], laidTests := true, laidLooks := .later }
def NormKeepsUptoCardSaid : Prop := Claim7.holds Tryz.pinned (.plain (OpenSpec.upto normKeepsSpec)) normKeepsUptoCard

/-- THE SECOND FORM's CARD OF 'rubricatorlaw08.NormNobody'. -/
def normNobodyUptoCard : Claim7 := { stood := { row := normNobodyUptoRow, standIns := [], harness := (true, "4d52aa2df9cc23931173f065464594394bde5d48c27731918e37f8fcc46f4659"), looks := true }, kinds := [], alts := [], laidByText := true, laidKinds := [.data, .data, .data, .data, .sentinel, .sentinel, .listed, .data, .pinned], laidTests := true, laidLooks := .later }
def NormNobodyUptoCardSaid : Prop := Claim7.holds Tryz.pinned (.plain (OpenSpec.upto normNobodySpec)) normNobodyUptoCard
end Rows
end Go.Proofs.YtfknljjbdofjjabGreatDoor
