/-
  DERIVED. GIVEN WITH THE SEED: THE CARDS: each row of YtamcaomenbgabaaDoorRows.lean that lists a variable, with what it lists TIED to the program's text (the seventh form; the later family's looks); each row that meets fmt, with fmt's text TOLD by the authors' own Lean function (tested against real Go, not proved from fmt's source: count such statements apart). THE CARD IS WHAT COUNTS. Prove the row's statement (the work); the ties are given (YtamcaomenbgabaaDoorTie.lean); close each card by the builder's one call (the guide's Derived/Test/ToyasCard.lean, 'card_holds'). Laid BY PROGRAM, IN A SANDBOX (cutbox-door.mjs). By AI agents, Wed Nov 11 2026. No macro, syntax, notation, axiom, sorry.
-/
import Derived.Test.YtamcaomenbgabaaDoorRows
import GoSem.ClaimSeven
namespace Go.Proofs.YtamcaomenbgabaaDoor
namespace Rows

/-- THE TIED CARD OF 'rubricatorlaw01.UtfForward'. -/
def utfForwardCard : Claim7 := { stood := { row := utfForwardRow, standIns := [], harness := (true, "1c5642c705969a017482ca47c34e8eb566f5009fc4090b1e4f7673dfad53c961"), looks := false }, kinds := [], alts := [], laidByText := true, laidKinds := [.data], laidTests := true, laidLooks := .later }
def UtfForwardCardSaid : Prop := Claim7.holds Tryd.pinned (.plain (OpenSpec.ofChange utfForwardSpec)) utfForwardCard

/-- THE TIED CARD OF 'rubricatorlaw01.UtfJoins'. -/
def utfJoinsCard : Claim7 := { stood := { row := utfJoinsRow, standIns := [], harness := (true, "1c5642c705969a017482ca47c34e8eb566f5009fc4090b1e4f7673dfad53c961"), looks := false }, kinds := [], alts := [], laidByText := true, laidKinds := [.data], laidTests := true, laidLooks := .later }
def UtfJoinsCardSaid : Prop := Claim7.holds Tryd.pinned (.plain (OpenSpec.ofChange utfJoinsSpec)) utfJoinsCard

/-- THE SECOND FORM's CARD OF 'rubricatorlaw01.UtfForward'. -/
def utfForwardUptoCard : Claim7 := { stood := { row := utfForwardUptoRow, standIns := [], harness := (true, "1c5642c705969a017482ca47c34e8eb566f5009fc4090b1e4f7673dfad53c961"), looks := false }, kinds := [], alts := [], laidByText := true, laidKinds := [.data], laidTests := true, laidLooks := .later }
def UtfForwardUptoCardSaid : Prop := Claim7.holds Tryd.pinned (.plain (OpenSpec.upto utfForwardSpec)) utfForwardUptoCard

/-- THE SECOND FORM's CARD OF 'rubricatorlaw01.UtfJoins'. -/
def utfJoinsUptoCard : Claim7 := { stood := { row := utfJoinsUptoRow, standIns := [], harness := (true, "1c5642c705969a017482ca47c34e8eb566f5009fc4090b1e4f7673dfad53c961"), looks := false }, kinds := [], alts := [], laidByText := true, laidKinds := [.data], laidTests := true, laidLooks := .later }
def UtfJoinsUptoCardSaid : Prop := Claim7.holds Tryd.pinned (.plain (OpenSpec.upto utfJoinsSpec)) utfJoinsUptoCard
end Rows
end Go.Proofs.YtamcaomenbgabaaDoor
