/-
  DERIVED. GIVEN WITH THE SEED: THE CARDS: each row of YtbdojobplhpnbaaGreatDoorRows.lean that lists a variable, with what it lists TIED to the program's text (the seventh form; the later family's looks); each row that meets fmt, with fmt's text TOLD by the authors' own Lean function (tested against real Go, not proved from fmt's source: count such statements apart). THE CARD IS WHAT COUNTS. Prove the row's statement (the work); the ties are given (YtbdojobplhpnbaaGreatDoorTie.lean); close each card by the builder's one call (the guide's Derived/Test/ToyasCard.lean, 'card_holds'). Laid BY PROGRAM, IN A SANDBOX (cutbox-door.mjs). By AI agents, Wed Nov 11 2026. No macro, syntax, notation, axiom, sorry.
-/
import Derived.Test.YtbdojobplhpnbaaGreatDoorRows
import GoSem.ClaimSeven
namespace Go.Proofs.YtbdojobplhpnbaaGreatDoor
namespace Rows

/-- THE TIED CARD OF 'rubricatorlaw10.ClusterEdges'. -/
def clusterEdgesCard : Claim7 := { stood := { row := clusterEdgesRow, standIns := [], harness := (true, "1c64636ea146495e4a9267966135d3ece5d5bb64db1d990da304ee1f6691fd8a"), looks := true }, kinds := [], alts := [], laidByText := true, laidKinds := [.data, .data, .data, .data, .sentinel, .sentinel, .listed, .data, .data, .pinned], laidTests := true, laidLooks := .later }
def ClusterEdgesCardSaid : Prop := Claim7.holds Tryz.pinned (.plain (OpenSpec.ofChange clusterEdgesSpec)) clusterEdgesCard

/-- THE TIED CARD OF 'rubricatorlaw10.ClusterNext'. -/
def clusterNextCard : Claim7 := { stood := { row := clusterNextRow, standIns := [], harness := (true, "1c64636ea146495e4a9267966135d3ece5d5bb64db1d990da304ee1f6691fd8a"), looks := true }, kinds := [], alts := [], laidByText := true, laidKinds := [.data, .data, .data, .data, .sentinel, .sentinel, .listed, .data, .data, .pinned], laidTests := true, laidLooks := .later }
def ClusterNextCardSaid : Prop := Claim7.holds Tryz.pinned (.plain (OpenSpec.ofChange clusterNextSpec)) clusterNextCard

/-- THE TIED CARD OF 'rubricatorlaw10.ClusterWalks'. -/
def clusterWalksCard : Claim7 := { stood := { row := clusterWalksRow, standIns := [], harness := (true, "1c64636ea146495e4a9267966135d3ece5d5bb64db1d990da304ee1f6691fd8a"), looks := true }, kinds := [], alts := [], laidByText := true, laidKinds := [.data, .data, .data, .data, .sentinel, .sentinel, .listed, .data, .data, .pinned], laidTests := true, laidLooks := .later }
def ClusterWalksCardSaid : Prop := Claim7.holds Tryz.pinned (.plain (OpenSpec.ofChange clusterWalksSpec)) clusterWalksCard

/-- THE TIED CARD OF 'rubricatorlaw10.ClusterLines'. -/
def clusterLinesCard : Claim7 := { stood := { row := clusterLinesRow, standIns := [], harness := (true, "1c64636ea146495e4a9267966135d3ece5d5bb64db1d990da304ee1f6691fd8a"), looks := true }, kinds := [], alts := [], laidByText := true, laidKinds := [.data, .data, .data, .data, .sentinel, .sentinel, .listed, .data, .data, .pinned], laidTests := true, laidLooks := .later }
def ClusterLinesCardSaid : Prop := Claim7.holds Tryz.pinned (.plain (OpenSpec.ofChange clusterLinesSpec)) clusterLinesCard

/-- THE TIED CARD OF 'rubricatorlaw10.ClusterFlags'. -/
def clusterFlagsCard : Claim7 := { stood := { row := clusterFlagsRow, standIns := [], harness := (true, "1c64636ea146495e4a9267966135d3ece5d5bb64db1d990da304ee1f6691fd8a"), looks := true }, kinds := [], alts := [], laidByText := true, laidKinds := [.data, .data, .data, .data, .sentinel, .sentinel, .listed, .data, .data, .pinned], laidTests := true, laidLooks := .later }
def ClusterFlagsCardSaid : Prop := Claim7.holds Tryz.pinned (.plain (OpenSpec.ofChange clusterFlagsSpec)) clusterFlagsCard

/-- THE TIED CARD OF 'rubricatorlaw10.ClusterMarks'. -/
def clusterMarksCard : Claim7 := { stood := { row := clusterMarksRow, standIns := [], harness := (true, "1c64636ea146495e4a9267966135d3ece5d5bb64db1d990da304ee1f6691fd8a"), looks := true }, kinds := [], alts := [], laidByText := true, laidKinds := [.data, .data, .data, .data, .sentinel, .sentinel, .listed, .data, .data, .pinned], laidTests := true, laidLooks := .later }
def ClusterMarksCardSaid : Prop := Claim7.holds Tryz.pinned (.plain (OpenSpec.ofChange clusterMarksSpec)) clusterMarksCard

/-- THE SECOND FORM's CARD OF 'rubricatorlaw10.ClusterEdges'. -/
def clusterEdgesUptoCard : Claim7 := { stood := { row := clusterEdgesUptoRow, standIns := [], harness := (true, "1c64636ea146495e4a9267966135d3ece5d5bb64db1d990da304ee1f6691fd8a"), looks := true }, kinds := [], alts := [], laidByText := true, laidKinds := [.data, .data, .data, .data, .sentinel, .sentinel, .listed, .data, .data, .pinned], laidTests := true, laidLooks := .later }
def ClusterEdgesUptoCardSaid : Prop := Claim7.holds Tryz.pinned (.plain (OpenSpec.upto clusterEdgesSpec)) clusterEdgesUptoCard

/-- THE SECOND FORM's CARD OF 'rubricatorlaw10.ClusterNext'. -/
def clusterNextUptoCard : Claim7 := { stood := { row := clusterNextUptoRow, standIns := [], harness := (true, "1c64636ea146495e4a9267966135d3ece5d5bb64db1d990da304ee1f6691fd8a"), looks := true }, kinds := [], alts := [], laidByText := true, laidKinds := [.data, .data, .data, .data, .sentinel, .sentinel, .listed, .data, .data, .pinned], laidTests := true, laidLooks := .later }
def ClusterNextUptoCardSaid : Prop := Claim7.holds Tryz.pinned (.plain (OpenSpec.upto clusterNextSpec)) clusterNextUptoCard

/-- THE SECOND FORM's CARD OF 'rubricatorlaw10.ClusterWalks'. -/
def clusterWalksUptoCard : Claim7 := { stood := { row := clusterWalksUptoRow, standIns := [], harness := (true, "1c64636ea146495e4a9267966135d3ece5d5bb64db1d990da304ee1f6691fd8a"), looks := true }, kinds := [], alts := [], laidByText := true, laidKinds := [.data, .data, .data, .data, .sentinel, .sentinel, .listed, .data, .data, .pinned], laidTests := true, laidLooks := .later }
def ClusterWalksUptoCardSaid : Prop := Claim7.holds Tryz.pinned (.plain (OpenSpec.upto clusterWalksSpec)) clusterWalksUptoCard

/-- THE SECOND FORM's CARD OF 'rubricatorlaw10.ClusterLines'. -/
def clusterLinesUptoCard : Claim7 := { stood := { row := clusterLinesUptoRow, standIns := [], harness := (true, "1c64636ea146495e4a9267966135d3ece5d5bb64db1d990da304ee1f6691fd8a"), looks := true }, kinds := [], alts := [], laidByText := true, laidKinds := [.data, .data, .data, .data, .sentinel, .sentinel, .listed, .data, .data, .pinned], laidTests := true, laidLooks := .later }
def ClusterLinesUptoCardSaid : Prop := Claim7.holds Tryz.pinned (.plain (OpenSpec.upto clusterLinesSpec)) clusterLinesUptoCard

/-- THE SECOND FORM's CARD OF 'rubricatorlaw10.ClusterFlags'. -/
def clusterFlagsUptoCard : Claim7 := { stood := { row := clusterFlagsUptoRow, standIns := [], harness := (true, "1c64636ea146495e4a9267966135d3ece5d5bb64db1d990da304ee1f6691fd8a"), looks := true }, kinds := [], alts := [], laidByText := true, laidKinds := [.data, .data, .data, .data, .sentinel, .sentinel, .listed, .data, .data, .pinned], laidTests := true, laidLooks := .later }
def ClusterFlagsUptoCardSaid : Prop := Claim7.holds Tryz.pinned (.plain (OpenSpec.upto clusterFlagsSpec)) clusterFlagsUptoCard

/-- THE SECOND FORM's CARD OF 'rubricatorlaw10.ClusterMarks'. -/
def clusterMarksUptoCard : Claim7 := { stood := { row := clusterMarksUptoRow, standIns := [], harness := (true, "1c64636ea146495e4a9267966135d3ece5d5bb64db1d990da304ee1f6691fd8a"), looks := true }, kinds := [], alts := [], laidByText := true, laidKinds := [.data, .data, .data, .data, .sentinel, .sentinel, .listed, .data, .data, .pinned], laidTests := true, laidLooks := .later }
def ClusterMarksUptoCardSaid : Prop := Claim7.holds Tryz.pinned (.plain (OpenSpec.upto clusterMarksSpec)) clusterMarksUptoCard
end Rows
end Go.Proofs.YtbdojobplhpnbaaGreatDoor
