/- What lines.boundsOf answers of any field: the two code points, if it says them. -/
import Derived.Test.YtnpnmhjhohhnjaaDoorLinHex2
import Derived.Test.YtnpnmhjhohhnjaaDoorLinShelf
import Derived.Lib.IndexMore
import Derived.OwnWalk
set_option linter.unusedVariables false
set_option linter.unusedSimpArgs false
namespace Go.Proofs.YtnpnmhjhohhnjaaDoor.lin
open Go.RowKit

/-- What stands ahead of, and behind, the first two dots; the field itself twice, if it has none. -/
def firstV (s : ByteArray) : ByteArray := ⟨(Lib.cut s.data.toList [46, 46]).1.toArray⟩
def secondV (s : ByteArray) : ByteArray := if (Lib.cut s.data.toList [46, 46]).2.2 then ⟨(Lib.cut s.data.toList [46, 46]).2.1.toArray⟩ else firstV s
def boundsB (s : ByteArray) : Bool := hexB (firstV s) && hexB (secondV s) && decide (hexN (firstV s) ≤ hexN (secondV s))
def boundsLo (s : ByteArray) : Int := if boundsB s then hexN (firstV s) else 0
def boundsHi (s : ByteArray) : Int := if boundsB s then hexN (secondV s) else 0

theorem cut_len (s t : List UInt8) : (Lib.cut s t).1.length ≤ s.length ∧ (Lib.cut s t).2.1.length ≤ s.length := by
  unfold Lib.cut
  split
  · simp; omega
  · simp
theorem first_size (s : ByteArray) : (firstV s).size ≤ s.size := by
  show (Lib.cut s.data.toList [46, 46]).1.toArray.size ≤ s.data.size
  have := (cut_len s.data.toList [46, 46]).1
  simpa using this
theorem second_size (s : ByteArray) : (secondV s).size ≤ s.size := by
  unfold secondV
  split
  · show (Lib.cut s.data.toList [46, 46]).2.1.toArray.size ≤ s.data.size
    have := (cut_len s.data.toList [46, 46]).2
    simpa using this
  · exact first_size s

theorem below_drewN {w : World} (n : Nat) : Below w.heap.size w (w.drewN n) := by
  induction n generalizing w with
  | zero => exact Below.refl _ _
  | succ n ih => exact ih.drew

end Go.Proofs.YtnpnmhjhohhnjaaDoor.lin
