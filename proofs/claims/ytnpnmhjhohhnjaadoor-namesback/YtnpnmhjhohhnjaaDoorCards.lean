/-
  DERIVED. GIVEN WITH THE SEED: THE CARDS: each row of YtnpnmhjhohhnjaaDoorRows.lean that lists a variable, with what it lists TIED to the program's text (the seventh form; the later family's looks); each row that meets fmt, with fmt's text TOLD by the authors' own Lean function (tested against real Go, not proved from fmt's source: count such statements apart). THE CARD IS WHAT COUNTS. Prove the row's statement (the work); the ties are given (YtnpnmhjhohhnjaaDoorTie.lean); close each card by the builder's one call (the guide's Derived/Test/ToyasCard.lean, 'card_holds'). Laid BY PROGRAM, IN A SANDBOX (cutbox-door.mjs). By AI agents, Wed Nov 11 2026. No macro, syntax, notation, axiom, sorry.
-/
import Derived.Test.YtnpnmhjhohhnjaaDoorRows
import GoSem.ClaimSeven
namespace Go.Proofs.YtnpnmhjhohhnjaaDoor
namespace Rows

/-- THE TIED CARD OF 'rubricatorlaw05.NamesLoose'. -/
def namesLooseCard : Claim7 := { stood := { row := namesLooseRow, standIns := [], harness := (true, "949405c8c4a06c89898426c07ccedb41f90aca0a4d177a3a95fdd4f052bb8f2e"), looks := false }, kinds := [], alts := [], laidByText := true, laidKinds := [.data, .pinned], laidTests := true, laidLooks := .later }
def NamesLooseCardSaid : Prop := Claim7.holds Tryd.pinned (.plain (OpenSpec.ofChange namesLooseSpec)) namesLooseCard

/-- THE TIED CARD OF 'rubricatorlaw05.NamesResolve'. -/
def namesResolveCard : Claim7 := { stood := { row := namesResolveRow, standIns := [], harness := (true, "949405c8c4a06c89898426c07ccedb41f90aca0a4d177a3a95fdd4f052bb8f2e"), looks := false }, kinds := [], alts := [], laidByText := true, laidKinds := [.data, .pinned], laidTests := true, laidLooks := .later }
def NamesResolveCardSaid : Prop := Claim7.holds Tryd.pinned (.plain (OpenSpec.ofChange namesResolveSpec)) namesResolveCard

/-- THE TIED CARD OF 'rubricatorlaw05.NamesLong'. -/
def namesLongCard : Claim7 := { stood := { row := namesLongRow, standIns := [], harness := (true, "949405c8c4a06c89898426c07ccedb41f90aca0a4d177a3a95fdd4f052bb8f2e"), looks := false }, kinds := [], alts := [], laidByText := true, laidKinds := [.data, .pinned], laidTests := true, laidLooks := .later }
def NamesLongCardSaid : Prop := Claim7.holds Tryd.pinned (.plain (OpenSpec.ofChange namesLongSpec)) namesLongCard

/-- THE TIED CARD OF 'rubricatorlaw05.NamesSame'. -/
def namesSameCard : Claim7 := { stood := { row := namesSameRow, standIns := [], harness := (true, "949405c8c4a06c89898426c07ccedb41f90aca0a4d177a3a95fdd4f052bb8f2e"), looks := false }, kinds := [], alts := [], laidByText := true, laidKinds := [.data, .pinned, .pinned], laidTests := true, laidLooks := .later }
def NamesSameCardSaid : Prop := Claim7.holds Tryd.pinned (.plain (OpenSpec.ofChange namesSameSpec)) namesSameCard

/-- THE TIED CARD OF 'rubricatorlaw05.NamesBack'. -/
def namesBackCard : Claim7 := { stood := { row := namesBackRow, standIns := [], harness := (true, "949405c8c4a06c89898426c07ccedb41f90aca0a4d177a3a95fdd4f052bb8f2e"), looks := false }, kinds := [], alts := [], laidByText := true, laidKinds := [.data, .pinned], laidTests := true, laidLooks := .later }
def NamesBackCardSaid : Prop := Claim7.holds Tryd.pinned (.plain (OpenSpec.ofChange namesBackSpec)) namesBackCard

/-- THE SECOND FORM's CARD OF 'rubricatorlaw05.NamesLoose'. -/
def namesLooseUptoCard : Claim7 := { stood := { row := namesLooseUptoRow, standIns := [], harness := (true, "949405c8c4a06c89898426c07ccedb41f90aca0a4d177a3a95fdd4f052bb8f2e"), looks := false }, kinds := [], alts := [], laidByText := true, laidKinds := [.data, .pinned], laidTests := true, laidLooks := .later }
def NamesLooseUptoCardSaid : Prop := Claim7.holds Tryd.pinned (.plain (OpenSpec.upto namesLooseSpec)) namesLooseUptoCard

/-- THE SECOND FORM's CARD OF 'rubricatorlaw05.NamesResolve'. -/
def namesResolveUptoCard : Claim7 := { stood := { row := namesResolveUptoRow, standIns := [], harness := (true, "949405c8c4a06c89898426c07ccedb41f90aca0a4d177a3a95fdd4f052bb8f2e"), looks := false }, kinds := [], alts := [], laidByText := true, laidKinds := [.data, .pinned], laidTests := true, laidLooks := .later }
def NamesResolveUptoCardSaid : Prop := Claim7.holds Tryd.pinned (.plain (OpenSpec.upto namesResolveSpec)) namesResolveUptoCard

/-- THE SECOND FORM's CARD OF 'rubricatorlaw05.NamesLong'. -/
def namesLongUptoCard : Claim7 := { stood := { row := namesLongUptoRow, standIns := [], harness := (true, "949405c8c4a06c89898426c07ccedb41f90aca0a4d177a3a95fdd4f052bb8f2e"), looks := false }, kinds := [], alts := [], laidByText := true, laidKinds := [.data, .pinned], laidTests := true, laidLooks := .later }
def NamesLongUptoCardSaid : Prop := Claim7.holds Tryd.pinned (.plain (OpenSpec.upto namesLongSpec)) namesLongUptoCard

/-- THE SECOND FORM's CARD OF 'rubricatorlaw05.NamesSame'. -/
def namesSameUptoCard : Claim7 := { stood := { row := namesSameUptoRow, standIns := [], harness := (true, "949405c8c4a06c89898426c07ccedb41f90aca0a4d177a3a95fdd4f052bb8f2e"), looks := false }, kinds := [], alts := [], laidByText := true, laidKinds := [.data, .pinned, .pinned], laidTests := true, laidLooks := .later }
def NamesSameUptoCardSaid : Prop := Claim7.holds Tryd.pinned (.plain (OpenSpec.upto namesSameSpec)) namesSameUptoCard

/-- THE SECOND FORM's CARD OF 'rubricatorlaw05.NamesBack'. -/
def namesBackUptoCard : Claim7 := { stood := { row := namesBackUptoRow, standIns := [], harness := (true, "949405c8c4a06c89898426c07ccedb41f90aca0a4d177a3a95fdd4f052bb8f2e"), looks := false }, kinds := [], alts := [], laidByText := true, laidKinds := [.data, .pinned], laidTests := true, laidLooks := .later }
def NamesBackUptoCardSaid : Prop := Claim7.holds Tryd.pinned (.plain (OpenSpec.upto namesBackSpec)) namesBackUptoCard
end Rows
end Go.Proofs.YtnpnmhjhohhnjaaDoor
