/-
  DERIVED. GIVEN WITH THE SEED: THE CARDS: each row of YtbdojobplhpnbabGreatDoorRows.lean that lists a variable, with what it lists TIED to the program's text (the seventh form; the later family's looks); each row that meets fmt, with fmt's text TOLD by the authors' own Lean function (tested against real Go, not proved from fmt's source: count such statements apart). THE CARD IS WHAT COUNTS. Prove the row's statement (the work); the ties are given (YtbdojobplhpnbabGreatDoorTie.lean); close each card by the builder's one call (the guide's Derived/Test/ToyasCard.lean, 'card_holds'). Laid BY PROGRAM, IN A SANDBOX (cutbox-door.mjs). By AI agents, Wed Nov 11 2026. No macro, syntax, notation, axiom, sorry.
-/
import Derived.Test.YtbdojobplhpnbabGreatDoorRows
import GoSem.ClaimSeven
namespace Go.Proofs.YtbdojobplhpnbabGreatDoor
namespace Rows

/-- THE TIED CARD OF 'rubricatorlaw10.ClusterNobody'. -/
def clusterNobodyCard : Claim7 := { stood := { row := clusterNobodyRow, standIns := [], harness := (true, "047ab06d21378d7c87ba67da0b54ea6a21b806bc3d0f5d2c62d5e1886e91b88f"), looks := true }, kinds := [], alts := [], laidByText := true, laidKinds := [.data, .data, .data, .data, .sentinel, .sentinel, .listed, .data, .data, .pinned], laidTests := true, laidLooks := .later }
def ClusterNobodyCardSaid : Prop := Claim7.holds Tryz.pinned (.plain (OpenSpec.ofChange clusterNobodySpec)) clusterNobodyCard

/-- THE SECOND FORM's CARD OF 'rubricatorlaw10.ClusterNobody'. -/
def clusterNobodyUptoCard : Claim7 := { stood := { row := clusterNobodyUptoRow, standIns := [], harness := (true, "047ab06d21378d7c87ba67da0b54ea6a21b806bc3d0f5d2c62d5e1886e91b88f"), looks := true }, kinds := [], alts := [], laidByText := true, laidKinds := [.data, .data, .data, .data, .sentinel, .sentinel, .listed, .data, .data, .pinned], laidTests := true, laidLooks := .later }
def ClusterNobodyUptoCardSaid : Prop := Claim7.holds Tryz.pinned (.plain (OpenSpec.upto clusterNobodySpec)) clusterNobodyUptoCard
end Rows
end Go.Proofs.YtbdojobplhpnbabGreatDoor
