/-
  No cell of these rows narrows 'for every input' (looked for: loops, veiled, ifaces, maps, wideKeys, modest, calm, conditions, laid).
  DERIVED. THE GIVEN ROWS OF THIS SEAT. 6 by the template 'for every input the law returns true; each argument reads behind the call as it read before'; 0 by the template 'total and deterministic' (their statements: YtjbmdbjggelilaaTotals.lean).
  GIVEN WITH THE SEED: the statements are not yours to turn. If you find one false, say at which input.
  Laid BY PROGRAM, IN A SANDBOX (cutbox-rows.mjs): the forced cells as the released guide's own fill.sh prints them over the translation 7bd54a5824e74736… (all of the seat's roots in one cut). By AI agents, Wed Nov 11 2026. No macro, syntax, notation, axiom, sorry.
-/
import Derived.Test.YtjbmdbjggelilaaChecked
import GoSem.Claim
import GoSem.ClaimJoined
import GoSem.ClaimMapViews
import Derived.JoinedTies
import Derived.KernelRfl
namespace Go.Proofs.Ytjbmdbjggelilaa
/- THE CELL 'sum', in the pinned program and in every row, IS THE sha256 OF THE DUMP (.gsa) THAT YtjbmdbjggelilaaProg.lean LOADS. Nothing in Lean hashes anything: it is a label: what it is worth is what the hold of that sum in a sandbox is worth. -/
noncomputable def Try.pinned : Pinned := { name := "ytjbmdbjggelilaa", sum := "7bd54a5824e747363714f278bdc5100f6e46bc536edbd1f6104a9453d034b76c", checked := Try.checked }
namespace Rows
def none {H : Type} : Left H := { results := [], args := [] }

/-- 'rubricatorlaw03.RangesMake': WHATEVER THE INPUT: true; the input reads as it did. -/
def rangesMakeSpec : ChangeSpec := { name := "rangesMake", fn := fun _ => fun
  | [d1, d2] => { results := [.lit (.bool true)], args := [d1, d2] }
  | _ => none }
def rangesMakeRow : OpenClaim := { program := "ytjbmdbjggelilaa", sum := "7bd54a5824e747363714f278bdc5100f6e46bc536edbd1f6104a9453d034b76c", func := "rubricator/rubricatorlaw03.RangesMake", spec := "rangesMake", unfollowed := true, recurses := true, apart := false }
def RangesMakeSaid : Prop := rangesMakeRow.holds Try.pinned (OpenSpec.ofChange rangesMakeSpec)

/-- ITS FALSE NEIGHBOUR: 'it returns false'. Refute it at one input. -/
def rangesMakeWrong : ChangeSpec := { name := "rangesMake", fn := fun _ => fun
  | [d1, d2] => { results := [.lit (.bool false)], args := [d1, d2] }
  | _ => none }
def RangesMakeWrongFalsely : Prop := rangesMakeRow.holds Try.pinned (OpenSpec.ofChange rangesMakeWrong)

/-- 'rubricatorlaw03.RangesBoth': WHATEVER THE INPUT: true; the input reads as it did. -/
def rangesBothSpec : ChangeSpec := { name := "rangesBoth", fn := fun _ => fun
  | [d1, d2] => { results := [.lit (.bool true)], args := [d1, d2] }
  | _ => none }
def rangesBothRow : OpenClaim := { program := "ytjbmdbjggelilaa", sum := "7bd54a5824e747363714f278bdc5100f6e46bc536edbd1f6104a9453d034b76c", func := "rubricator/rubricatorlaw03.RangesBoth", spec := "rangesBoth", unfollowed := true, recurses := true, apart := false }
def RangesBothSaid : Prop := rangesBothRow.holds Try.pinned (OpenSpec.ofChange rangesBothSpec)

/-- ITS FALSE NEIGHBOUR: 'it returns false'. Refute it at one input. -/
def rangesBothWrong : ChangeSpec := { name := "rangesBoth", fn := fun _ => fun
  | [d1, d2] => { results := [.lit (.bool false)], args := [d1, d2] }
  | _ => none }
def RangesBothWrongFalsely : Prop := rangesBothRow.holds Try.pinned (OpenSpec.ofChange rangesBothWrong)

/-- 'rubricatorlaw03.RangesNot': WHATEVER THE INPUT: true; the input reads as it did. -/
def rangesNotSpec : ChangeSpec := { name := "rangesNot", fn := fun _ => fun
  | [d] => { results := [.lit (.bool true)], args := [d] }
  | _ => none }
def rangesNotRow : OpenClaim := { program := "ytjbmdbjggelilaa", sum := "7bd54a5824e747363714f278bdc5100f6e46bc536edbd1f6104a9453d034b76c", func := "rubricator/rubricatorlaw03.RangesNot", spec := "rangesNot", unfollowed := true, recurses := true, apart := false }
def RangesNotSaid : Prop := rangesNotRow.holds Try.pinned (OpenSpec.ofChange rangesNotSpec)

/-- ITS FALSE NEIGHBOUR: 'it returns false'. Refute it at one input. -/
def rangesNotWrong : ChangeSpec := { name := "rangesNot", fn := fun _ => fun
  | [d] => { results := [.lit (.bool false)], args := [d] }
  | _ => none }
def RangesNotWrongFalsely : Prop := rangesNotRow.holds Try.pinned (OpenSpec.ofChange rangesNotWrong)

/-- 'rubricatorlaw03.RangesHold': WHATEVER THE INPUT: true; the input reads as it did. -/
def rangesHoldSpec : ChangeSpec := { name := "rangesHold", fn := fun _ => fun
  | [d1, d2, d3] => { results := [.lit (.bool true)], args := [d1, d2, d3] }
  | _ => none }
def rangesHoldRow : OpenClaim := { program := "ytjbmdbjggelilaa", sum := "7bd54a5824e747363714f278bdc5100f6e46bc536edbd1f6104a9453d034b76c", func := "rubricator/rubricatorlaw03.RangesHold", spec := "rangesHold", unfollowed := true, recurses := true, apart := false }
def RangesHoldSaid : Prop := rangesHoldRow.holds Try.pinned (OpenSpec.ofChange rangesHoldSpec)

/-- ITS FALSE NEIGHBOUR: 'it returns false'. Refute it at one input. -/
def rangesHoldWrong : ChangeSpec := { name := "rangesHold", fn := fun _ => fun
  | [d1, d2, d3] => { results := [.lit (.bool false)], args := [d1, d2, d3] }
  | _ => none }
def RangesHoldWrongFalsely : Prop := rangesHoldRow.holds Try.pinned (OpenSpec.ofChange rangesHoldWrong)

/-- 'rubricatorlaw03.RangesAlgebra': WHATEVER THE INPUT: true; the input reads as it did. -/
def rangesAlgebraSpec : ChangeSpec := { name := "rangesAlgebra", fn := fun _ => fun
  | [d1, d2, d3] => { results := [.lit (.bool true)], args := [d1, d2, d3] }
  | _ => none }
def rangesAlgebraRow : OpenClaim := { program := "ytjbmdbjggelilaa", sum := "7bd54a5824e747363714f278bdc5100f6e46bc536edbd1f6104a9453d034b76c", func := "rubricator/rubricatorlaw03.RangesAlgebra", spec := "rangesAlgebra", unfollowed := true, recurses := true, apart := false }
def RangesAlgebraSaid : Prop := rangesAlgebraRow.holds Try.pinned (OpenSpec.ofChange rangesAlgebraSpec)

/-- ITS FALSE NEIGHBOUR: 'it returns false'. Refute it at one input. -/
def rangesAlgebraWrong : ChangeSpec := { name := "rangesAlgebra", fn := fun _ => fun
  | [d1, d2, d3] => { results := [.lit (.bool false)], args := [d1, d2, d3] }
  | _ => none }
def RangesAlgebraWrongFalsely : Prop := rangesAlgebraRow.holds Try.pinned (OpenSpec.ofChange rangesAlgebraWrong)

/-- 'rubricatorlaw03.RangesCount': WHATEVER THE INPUT: true; the input reads as it did. -/
def rangesCountSpec : ChangeSpec := { name := "rangesCount", fn := fun _ => fun
  | [d1, d2] => { results := [.lit (.bool true)], args := [d1, d2] }
  | _ => none }
def rangesCountRow : OpenClaim := { program := "ytjbmdbjggelilaa", sum := "7bd54a5824e747363714f278bdc5100f6e46bc536edbd1f6104a9453d034b76c", func := "rubricator/rubricatorlaw03.RangesCount", spec := "rangesCount", unfollowed := true, recurses := true, apart := false }
def RangesCountSaid : Prop := rangesCountRow.holds Try.pinned (OpenSpec.ofChange rangesCountSpec)

/-- ITS FALSE NEIGHBOUR: 'it returns false'. Refute it at one input. -/
def rangesCountWrong : ChangeSpec := { name := "rangesCount", fn := fun _ => fun
  | [d1, d2] => { results := [.lit (.bool false)], args := [d1, d2] }
  | _ => none }
def RangesCountWrongFalsely : Prop := rangesCountRow.holds Try.pinned (OpenSpec.ofChange rangesCountWrong)

/- THE SECOND FORM. 'bulk': how many values and letters a reading holds, each counted each time it is reached (what is shared counts as often as it is met; a slice's spare places count too). A statement '..UptoSaid' is the law's where the arguments, and the package variables that the reading takes, are together of bulk at most 1048576: NARROWER than '..Said'. Prove '..Said' where nothing that the law and all that it calls make is longer than what came in: it says more and counts as full. Else prove '..UptoSaid'. A law counts once. -/
mutual
def uptoBulk {H : Type} : DataW H → Nat
  | .lit (.string bytes) => bytes.length + 1
  | .lit _ => 1
  | .nil => 1
  | .ptr d => uptoBulk d + 1
  | .slice elems spare => uptoBulkAll elems + uptoBulkAll spare + 1
  | .agg parts => uptoBulkAll parts + 1
  | .iface _ d => uptoBulk d + 1
  | .map entries => uptoBulkEntries entries + 1
  | .held _ => 1
def uptoBulkAll {H : Type} : List (DataW H) → Nat
  | [] => 0
  | d :: r => uptoBulk d + uptoBulkAll r
def uptoBulkEntries {H : Type} : List (Lit × DataW H) → Nat
  | [] => 0
  | x :: r => uptoBulkEntry x + uptoBulkEntries r
def uptoBulkEntry {H : Type} : Lit × DataW H → Nat
  | (.string bytes, d) => bytes.length + uptoBulk d + 1
  | (_, d) => uptoBulk d + 1
 end
def uptoSmall : (H : Type) → List (DataW H) → Bool := fun _ ds => decide (uptoBulkAll ds ≤ 1048576)
def OpenSpec.upto (s : _root_.Go.ChangeSpec) : _root_.Go.OpenSpec := { _root_.Go.OpenSpec.ofChange s with cond := some uptoSmall }

/-- 'rubricatorlaw03.RangesMake', WHERE WHAT IT READS IS OF BULK AT MOST 1048576: true; the input reads as it did. -/
def rangesMakeUptoRow : OpenClaim := { program := "ytjbmdbjggelilaa", sum := "7bd54a5824e747363714f278bdc5100f6e46bc536edbd1f6104a9453d034b76c", func := "rubricator/rubricatorlaw03.RangesMake", spec := "rangesMake", unfollowed := true, recurses := true, apart := false, narrowed := true }
def RangesMakeUptoSaid : Prop := rangesMakeUptoRow.holds Try.pinned (OpenSpec.upto rangesMakeSpec)

/-- 'rubricatorlaw03.RangesBoth', WHERE WHAT IT READS IS OF BULK AT MOST 1048576: true; the input reads as it did. -/
def rangesBothUptoRow : OpenClaim := { program := "ytjbmdbjggelilaa", sum := "7bd54a5824e747363714f278bdc5100f6e46bc536edbd1f6104a9453d034b76c", func := "rubricator/rubricatorlaw03.RangesBoth", spec := "rangesBoth", unfollowed := true, recurses := true, apart := false, narrowed := true }
def RangesBothUptoSaid : Prop := rangesBothUptoRow.holds Try.pinned (OpenSpec.upto rangesBothSpec)

/-- 'rubricatorlaw03.RangesNot', WHERE WHAT IT READS IS OF BULK AT MOST 1048576: true; the input reads as it did. -/
def rangesNotUptoRow : OpenClaim := { program := "ytjbmdbjggelilaa", sum := "7bd54a5824e747363714f278bdc5100f6e46bc536edbd1f6104a9453d034b76c", func := "rubricator/rubricatorlaw03.RangesNot", spec := "rangesNot", unfollowed := true, recurses := true, apart := false, narrowed := true }
def RangesNotUptoSaid : Prop := rangesNotUptoRow.holds Try.pinned (OpenSpec.upto rangesNotSpec)

/-- 'rubricatorlaw03.RangesHold', WHERE WHAT IT READS IS OF BULK AT MOST 1048576: true; the input reads as it did. -/
def rangesHoldUptoRow : OpenClaim := { program := "ytjbmdbjggelilaa", sum := "7bd54a5824e747363714f278bdc5100f6e46bc536edbd1f6104a9453d034b76c", func := "rubricator/rubricatorlaw03.RangesHold", spec := "rangesHold", unfollowed := true, recurses := true, apart := false, narrowed := true }
def RangesHoldUptoSaid : Prop := rangesHoldUptoRow.holds Try.pinned (OpenSpec.upto rangesHoldSpec)

/-- 'rubricatorlaw03.RangesAlgebra', WHERE WHAT IT READS IS OF BULK AT MOST 1048576: true; the input reads as it did. -/
def rangesAlgebraUptoRow : OpenClaim := { program := "ytjbmdbjggelilaa", sum := "7bd54a5824e747363714f278bdc5100f6e46bc536edbd1f6104a9453d034b76c", func := "rubricator/rubricatorlaw03.RangesAlgebra", spec := "rangesAlgebra", unfollowed := true, recurses := true, apart := false, narrowed := true }
def RangesAlgebraUptoSaid : Prop := rangesAlgebraUptoRow.holds Try.pinned (OpenSpec.upto rangesAlgebraSpec)

/-- 'rubricatorlaw03.RangesCount', WHERE WHAT IT READS IS OF BULK AT MOST 1048576: true; the input reads as it did. -/
def rangesCountUptoRow : OpenClaim := { program := "ytjbmdbjggelilaa", sum := "7bd54a5824e747363714f278bdc5100f6e46bc536edbd1f6104a9453d034b76c", func := "rubricator/rubricatorlaw03.RangesCount", spec := "rangesCount", unfollowed := true, recurses := true, apart := false, narrowed := true }
def RangesCountUptoSaid : Prop := rangesCountUptoRow.holds Try.pinned (OpenSpec.upto rangesCountSpec)

end Rows
end Go.Proofs.Ytjbmdbjggelilaa
