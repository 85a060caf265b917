/-
  DERIVED. GIVEN WITH THE SEED: THE CARDS: each row of YtochajmhljipbaaGreatDoorRows.lean that lists a variable, with what it lists TIED to the program's text (the seventh form; the later family's looks); each row that meets fmt, with fmt's text TOLD by the authors' own Lean function (tested against real Go, not proved from fmt's source: count such statements apart). THE CARD IS WHAT COUNTS. Prove the row's statement (the work); the ties are given (YtochajmhljipbaaGreatDoorTie.lean); close each card by the builder's one call (the guide's Derived/Test/ToyasCard.lean, 'card_holds'). Laid BY PROGRAM, IN A SANDBOX (cutbox-door.mjs). By AI agents, Wed Nov 11 2026. No macro, syntax, notation, axiom, sorry.
-/
import Derived.Test.YtochajmhljipbaaGreatDoorRows
import GoSem.ClaimSeven
namespace Go.Proofs.YtochajmhljipbaaGreatDoor
namespace Rows

/-- THE TIED CARD OF 'rubricatorlaw09.FoldTells'. -/
def foldTellsCard : Claim7 := { stood := { row := foldTellsRow, standIns := [], harness := (true, "52a0092ac865b44103ddba6e46639df6ea2bde0665d4953be76e0a81027ae94a"), looks := true }, kinds := [], alts := [], laidByText := true, laidKinds := [.data, .data, .data, .data, .sentinel, .sentinel, .listed, .data, .pinned], laidTests := true, laidLooks := .later }
def FoldTellsCardSaid : Prop := Claim7.holds Tryz.pinned (.plain (OpenSpec.ofChange foldTellsSpec)) foldTellsCard

/-- THE TIED CARD OF 'rubricatorlaw09.FoldCloses'. -/
def foldClosesCard : Claim7 := { stood := { row := foldClosesRow, standIns := [], harness := (true, "52a0092ac865b44103ddba6e46639df6ea2bde0665d4953be76e0a81027ae94a"), looks := true }, kinds := [], alts := [], laidByText := true, laidKinds := [.data, .data, .data, .data, .sentinel, .sentinel, .listed, .data, .pinned], laidTests := true, laidLooks := .later }
def FoldClosesCardSaid : Prop := Claim7.holds Tryz.pinned (.plain (OpenSpec.ofChange foldClosesSpec)) foldClosesCard

/-- THE TIED CARD OF 'rubricatorlaw09.FoldTwice'. -/
def foldTwiceCard : Claim7 := { stood := { row := foldTwiceRow, standIns := [], harness := (true, "52a0092ac865b44103ddba6e46639df6ea2bde0665d4953be76e0a81027ae94a"), looks := true }, kinds := [], alts := [], laidByText := true, laidKinds := [.data, .data, .data, .data, .sentinel, .sentinel, .listed, .data, .pinned], laidTests := true, laidLooks := .later }
def FoldTwiceCardSaid : Prop := Claim7.holds Tryz.pinned (.plain (OpenSpec.ofChange foldTwiceSpec)) foldTwiceCard

/-- THE TIED CARD OF 'rubricatorlaw09.FoldSettles'. -/
def foldSettlesCard : Claim7 := { stood := { row := foldSettlesRow, standIns := [], harness := (true, "52a0092ac865b44103ddba6e46639df6ea2bde0665d4953be76e0a81027ae94a"), looks := true }, kinds := [], alts := [], laidByText := true, laidKinds := [.data, .data, .data, .data, .sentinel, .sentinel, .listed, .data, .pinned], laidTests := true, laidLooks := .later }
def FoldSettlesCardSaid : Prop := Claim7.holds Tryz.pinned (.plain (OpenSpec.ofChange foldSettlesSpec)) foldSettlesCard

/-- THE TIED CARD OF 'rubricatorlaw09.FoldMeets'. -/
def foldMeetsCard : Claim7 := { stood := { row := foldMeetsRow, standIns := [], harness := (true, "52a0092ac865b44103ddba6e46639df6ea2bde0665d4953be76e0a81027ae94a"), looks := true }, kinds := [], alts := [], laidByText := true, laidKinds := [.data, .data, .data, .data, .sentinel, .sentinel, .listed, .data, .pinned], laidTests := true, laidLooks := .later }
def FoldMeetsCardSaid : Prop := Claim7.holds Tryz.pinned (.plain (OpenSpec.ofChange foldMeetsSpec)) foldMeetsCard

/-- THE TIED CARD OF 'rubricatorlaw09.FoldNobody'. -/
def foldNobodyCard : Claim7 := { stood := { row := foldNobodyRow, standIns := [], harness := (true, "52a0092ac865b44103ddba6e46639df6ea2bde0665d4953be76e0a81027ae94a"), looks := true }, kinds := [], alts := [], laidByText := true, laidKinds := [.data, .data, .data, .data, .sentinel, .sentinel, .listed, .data, .pinned], laidTests := true, laidLooks := .later }
def FoldNobodyCardSaid : Prop := Claim7.holds Tryz.pinned (.plain (OpenSpec.ofChange foldNobodySpec)) foldNobodyCard

/-- THE SECOND FORM's CARD OF 'rubricatorlaw09.FoldTells'. -/
def foldTellsUptoCard : Claim7 := { stood := { row := foldTellsUptoRow, standIns := [], harness := (true, "52a0092ac865b44103ddba6e46639df6ea2bde0665d4953be76e0a81027ae94a"), looks := true }, kinds := [], alts := [], laidByText := true, laidKinds := [.data, .data, .data, .data, .sentinel, .sentinel, .listed, .data, .pinned], laidTests := true, laidLooks := .later }
def FoldTellsUptoCardSaid : Prop := Claim7.holds Tryz.pinned (.plain (OpenSpec.upto foldTellsSpec)) foldTellsUptoCard

/-- THE SECOND FORM's CARD OF 'rubricatorlaw09.FoldCloses'. -/
def foldClosesUptoCard : Claim7 := { stood := { row := foldClosesUptoRow, standIns := [], harness := (true, "52a0092ac865b44103ddba6e46639df6ea2bde0665d4953be76e0a81027ae94a"), looks := true }, kinds := [], alts := [], laidByText := true, laidKinds := [.data, .data, .data, .data, .sentinel, .sentinel, .listed, .data, .pinned], laidTests := true, laidLooks := .later }
def FoldClosesUptoCardSaid : Prop := Claim7.holds Tryz.pinned (.plain (OpenSpec.upto foldClosesSpec)) foldClosesUptoCard

/-- THE SECOND FORM's CARD OF 'rubricatorlaw09.FoldTwice'. -/
def foldTwiceUptoCard : Claim7 := { stood := { row := foldTwiceUptoRow, standIns := [], harness := (true, "52a0092ac865b44103ddba6e46639df6ea2bde0665d4953be76e0a81027ae94a"), looks := true }, kinds := [], alts := [], laidByText := true, laidKinds := [.data, .data, .data, .data, .sentinel, .sentinel, .listed, .data, .pinned], laidTests := true, laidLooks := .later }
def FoldTwiceUptoCardSaid : Prop := Claim7.holds Tryz.pinned (.plain (OpenSpec.upto foldTwiceSpec)) foldTwiceUptoCard

/-- THE SECOND FORM's CARD OF 'rubricatorlaw09.FoldSettles'. -/
def foldSettlesUptoCard : Claim7 := { stood := { row := foldSettlesUptoRow, standIns := [], harness := (true, "52a0092ac865b44103ddba6e46639df6ea2bde0665d4953be76e0a81027ae94a"), looks := true }, kinds := [], alts := [], laidByText := true, laidKinds := [.data, .data, .data, .data, .sentinel, .sentinel, .listed, .data, .pinned], laidTests := true, laidLooks := .later }
def FoldSettlesUptoCardSaid : Prop := Claim7.holds Tryz.pinned (.plain (OpenSpec.upto foldSettlesSpec)) foldSettlesUptoCard

/-- THE SECOND FORM's CARD OF 'rubricatorlaw09.FoldMeets'. -/
def foldMeetsUptoCard : Claim7 := { stood := { row := foldMeetsUptoRow, standIns := [], harness := (true, "52a0092ac865b44103ddba6e46639df6ea2bde0665d4953be76e0a81027ae94a"), looks := true }, kinds := [], alts := [], laidByText := true, laidKinds := [.data, .data, .data, .data, .sentinel, .sentinel, .listed, .data, .pinned], laidTests := true, laidLooks := .later }
def FoldMeetsUptoCardSaid : Prop := Claim7.holds Tryz.pinned (.plain (OpenSpec.upto foldMeetsSpec)) foldMeetsUptoCard

/-- THE SECOND FORM's CARD OF 'rubricatorlaw09.FoldNobody'. -/
def foldNobodyUptoCard : Claim7 := { stood := { row := foldNobodyUptoRow, standIns := [], harness := (true, "52a0092ac865b44103ddba6e46639df6ea2bde0665d4953be76e0a81027ae94a"), looks := true }, kinds := [], alts := [], laidByText := true, laidKinds := [.data, .data, .data, .data, .sentinel, .sentinel, .listed, .data, .pinned], laidTests := true, laidLooks := .later }
def FoldNobodyUptoCardSaid : Prop := Claim7.holds Tryz.pinned (.plain (OpenSpec.upto foldNobodySpec)) foldNobodyUptoCard
end Rows
end Go.Proofs.YtochajmhljipbaaGreatDoor
