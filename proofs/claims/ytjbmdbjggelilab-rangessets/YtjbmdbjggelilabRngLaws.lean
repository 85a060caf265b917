/- The walks of the statements over ranges. -/
import Derived.Test.YtjbmdbjggelilabRngCalls
set_option linter.unusedVariables false
set_option linter.unusedSimpArgs false
namespace Go.Proofs.Ytjbmdbjggelilab.rng
open Go.RowKit

theorem take40 (l : List R) : (l.take 40).length ≤ 1000000 := by rw [List.length_take]; omega
theorem eq_self (b : Bool) : (b == b) = true := by cases b <;> rfl

end Go.Proofs.Ytjbmdbjggelilab.rng
