/-
  DERIVED. GIVEN WITH THE SEED: THE CARDS: each row of YtfknljjbdofjjaaGreatDoorRows.lean that lists a variable, with what it lists TIED to the program's text (the seventh form; the later family's looks); each row that meets fmt, with fmt's text TOLD by the authors' own Lean function (tested against real Go, not proved from fmt's source: count such statements apart). THE CARD IS WHAT COUNTS. Prove the row's statement (the work); the ties are given (YtfknljjbdofjjaaGreatDoorTie.lean); close each card by the builder's one call (the guide's Derived/Test/ToyasCard.lean, 'card_holds'). Laid BY PROGRAM, IN A SANDBOX (cutbox-door.mjs). By AI agents, Wed Nov 11 2026. No macro, syntax, notation, axiom, sorry.
-/
import Derived.Test.YtfknljjbdofjjaaGreatDoorRows
import GoSem.ClaimSeven
namespace Go.Proofs.YtfknljjbdofjjaaGreatDoor
namespace Rows

/-- THE TIED CARD OF 'rubricatorlaw07.DecompFull'. -/
def decompFullCard : Claim7 := { stood := { row := decompFullRow, standIns := [], harness := (true, "10a1aa71a2daf7c4bf8a0bfe3d9c5e9062cfdf1ab0e00bdbb42047cd8b9840ef"), looks := true }, kinds := [], alts := [], laidByText := true, laidKinds := [.data, .data, .data, .data, .sentinel, .sentinel, .listed, .data, .pinned], laidTests := true, laidLooks := .later }
def DecompFullCardSaid : Prop := Claim7.holds Tryz.pinned (.plain (OpenSpec.ofChange decompFullSpec)) decompFullCard

/-- THE TIED CARD OF 'rubricatorlaw07.DecompMembers'. -/
def decompMembersCard : Claim7 := { stood := { row := decompMembersRow, standIns := [], harness := (true, "10a1aa71a2daf7c4bf8a0bfe3d9c5e9062cfdf1ab0e00bdbb42047cd8b9840ef"), looks := true }, kinds := [], alts := [], laidByText := true, laidKinds := [.data, .data, .data, .data, .sentinel, .sentinel, .listed, .data, .pinned], laidTests := true, laidLooks := .later }
def DecompMembersCardSaid : Prop := Claim7.holds Tryz.pinned (.plain (OpenSpec.ofChange decompMembersSpec)) decompMembersCard

/-- THE TIED CARD OF 'rubricatorlaw07.DecompEnds'. -/
def decompEndsCard : Claim7 := { stood := { row := decompEndsRow, standIns := [], harness := (true, "10a1aa71a2daf7c4bf8a0bfe3d9c5e9062cfdf1ab0e00bdbb42047cd8b9840ef"), looks := true }, kinds := [], alts := [], laidByText := true, laidKinds := [.data, .data, .data, .data, .sentinel, .sentinel, .listed, .data, .pinned], laidTests := true, laidLooks := .later }
def DecompEndsCardSaid : Prop := Claim7.holds Tryz.pinned (.plain (OpenSpec.ofChange decompEndsSpec)) decompEndsCard

/-- THE TIED CARD OF 'rubricatorlaw07.DecompHangul'. -/
def decompHangulCard : Claim7 := { stood := { row := decompHangulRow, standIns := [], harness := (true, "10a1aa71a2daf7c4bf8a0bfe3d9c5e9062cfdf1ab0e00bdbb42047cd8b9840ef"), looks := true }, kinds := [], alts := [], laidByText := true, laidKinds := [.data, .data, .data, .data, .sentinel, .sentinel, .listed, .data, .pinned], laidTests := true, laidLooks := .later }
def DecompHangulCardSaid : Prop := Claim7.holds Tryz.pinned (.plain (OpenSpec.ofChange decompHangulSpec)) decompHangulCard

/-- THE TIED CARD OF 'rubricatorlaw07.DecompNobody'. -/
def decompNobodyCard : Claim7 := { stood := { row := decompNobodyRow, standIns := [], harness := (true, "10a1aa71a2daf7c4bf8a0bfe3d9c5e9062cfdf1ab0e00bdbb42047cd8b9840ef"), looks := true }, kinds := [], alts := [], laidByText := true, laidKinds := [.data, .data, .data, .data, .sentinel, .sentinel, .listed, .data, .pinned], laidTests := true, laidLooks := .later }
def DecompNobodyCardSaid : Prop := Claim7.holds Tryz.pinned (.plain (OpenSpec.ofChange decompNobodySpec)) decompNobodyCard

/-- THE TIED CARD OF 'rubricatorlaw08.NormItems'. -/
def normItemsCard : Claim7 := { stood := { row := normItemsRow, standIns := [], harness := (true, "10a1aa71a2daf7c4bf8a0bfe3d9c5e9062cfdf1ab0e00bdbb42047cd8b9840ef"), looks := true }, kinds := [], alts := [], laidByText := true, laidKinds := [.data, .data, .data, .data, .sentinel, .sentinel, .listed, .data, .pinned], laidTests := true, laidLooks := .later }
def NormItemsCardSaid : Prop := Claim7.holds Tryz.pinned (.plain (OpenSpec.ofChange normItemsSpec)) normItemsCard

/-- THE SECOND FORM's CARD OF 'rubricatorlaw07.DecompFull'. -/
def decompFullUptoCard : Claim7 := { stood := { row := decompFullUptoRow, standIns := [], harness := (true, "10a1aa71a2daf7c4bf8a0bfe3d9c5e9062cfdf1ab0e00bdbb42047cd8b9840ef"), looks := true }, kinds := [], alts := [], laidByText := true, laidKinds := [.data, .data, .data, .data, .sentinel, .sentinel, .listed, .data, .pinned], laidTests := true, laidLooks := .later }
def DecompFullUptoCardSaid : Prop := Claim7.holds Tryz.pinned (.plain (OpenSpec.upto decompFullSpec)) decompFullUptoCard

/-- THE SECOND FORM's CARD OF 'rubricatorlaw07.DecompMembers'. -/
def decompMembersUptoCard : Claim7 := { stood := { row := decompMembersUptoRow, standIns := [], harness := (true, "10a1aa71a2daf7c4bf8a0bfe3d9c5e9062cfdf1ab0e00bdbb42047cd8b9840ef"), looks := true }, kinds := [], alts := [], laidByText := true, laidKinds := [.data, .data, .data, .data, .sentinel, .sentinel, .listed, .data, .pinned], laidTests := true, laidLooks := .later }
def DecompMembersUptoCardSaid : Prop := Claim7.holds Tryz.pinned (.plain (OpenSpec.upto decompMembersSpec)) decompMembersUptoCard

/-- THE SECOND FORM's CARD OF 'rubricatorlaw07.DecompEnds'. -/
def decompEndsUptoCard : Claim7 := { stood := { row := decompEndsUptoRow, standIns := [], harness := (true, "10a1aa71a2daf7c4bf8a0bfe3d9c5e9062cfdf1ab0e00bdbb42047cd8b9840ef"), looks := true }, kinds := [], alts := [], laidByText := true, laidKinds := [.data, .data, .data, .data, .sentinel, .sentinel, .listed, .data, .pinned], laidTests := true, laidLooks := .later }
def DecompEndsUptoCardSaid : Prop := Claim7.holds Tryz.pinned (.plain (OpenSpec.upto decompEndsSpec)) decompEndsUptoCard

/-- THE SECOND FORM's CARD OF 'rubricatorlaw07.DecompHangul'. -/
def decompHangulUptoCard : Claim7 := { stood := { row := decompHangulUptoRow, standIns := [], harness := (true, "10a1aa71a2daf7c4bf8a0bfe3d9c5e9062cfdf1ab0e00bdbb42047cd8b9840ef"), looks := true }, kinds := [], alts := [], laidByText := true, laidKinds := [.data, .data, .data, .data, .sentinel, .sentinel, .listed, .data, .pinned], laidTests := true, laidLooks := .later }
def DecompHangulUptoCardSaid : Prop := Claim7.holds Tryz.pinned (.plain (OpenSpec.upto decompHangulSpec)) decompHangulUptoCard

/-- THE SECOND FORM's CARD OF 'rubricatorlaw07.DecompNobody'. -/
def decompNobodyUptoCard : Claim7 := { stood := { row := decompNobodyUptoRow, standIns := [], harness := (true, "10a1aa71a2daf7c4bf8a0bfe3d9c5e9062cfdf1ab0e00bdbb42047cd8b9840ef"), looks := true }, kinds := [], alts := [], laidByText := true, laidKinds := [.data, .data, .data, .data, .sentinel, .sentinel, .listed, .data, .pinned], laidTests := true, laidLooks := .later }
def DecompNobodyUptoCardSaid : Prop := Claim7.holds Tryz.pinned (.plain (OpenSpec.upto decompNobodySpec)) decompNobodyUptoCard

/-- THE SECOND FORM's CARD OF 'rubricatorlaw08.NormItems'. -/
def normItemsUptoCard : Claim7 := { stood := { row := normItemsUptoRow, standIns := [], harness := (true, "10a1aa71a2daf7c4bf8a0bfe3d9c5e9062cfdf1ab0e00bdbb42047cd8b9840ef"), looks := true }, kinds := [], alts := [], laidByText := true, laidKinds := [.data, .data, .data, .data, .sentinel, .sentinel, .listed, .data, .pinned], laidTests := true, laidLooks := .later }
def NormItemsUptoCardSaid : Prop := Claim7.holds Tryz.pinned (.plain (OpenSpec.upto normItemsSpec)) normItemsUptoCard
end Rows
end Go.Proofs.YtfknljjbdofjjaaGreatDoor
