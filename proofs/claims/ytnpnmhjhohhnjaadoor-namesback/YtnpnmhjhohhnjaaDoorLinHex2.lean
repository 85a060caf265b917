/- What the document's Hex and lines.Hex answer of a string of four to six bytes. -/
import Derived.Test.YtnpnmhjhohhnjaaDoorLinHex
set_option linter.unusedVariables false
set_option linter.unusedSimpArgs false
namespace Go.Proofs.YtnpnmhjhohhnjaaDoor.lin
open Go.RowKit

theorem below_iter (w : World) (s : ByteArray) (p : Nat) : Below w.heap.size w (w.iter s p) := (Below.refl _ _).alloc (Nat.le_refl _) _

end Go.Proofs.YtnpnmhjhohhnjaaDoor.lin
