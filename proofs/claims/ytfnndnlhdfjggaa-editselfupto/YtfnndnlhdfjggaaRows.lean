/-
  No cell of these rows narrows 'for every input' (looked for: loops, veiled, ifaces, maps, wideKeys, modest, calm, conditions, laid).
  DERIVED. THE GIVEN ROWS OF THIS SEAT. 5 by the template 'for every input the law returns true; each argument reads behind the call as it read before'; 0 by the template 'total and deterministic' (their statements: YtfnndnlhdfjggaaTotals.lean).
  GIVEN WITH THE SEED: the statements are not yours to turn. If you find one false, say at which input.
  Laid BY PROGRAM, IN A SANDBOX (cutbox-rows.mjs): the forced cells as the released guide's own fill.sh prints them over the translation 79b19825b8ea34ad… (all of the seat's roots in one cut). By AI agents, Wed Nov 11 2026. No macro, syntax, notation, axiom, sorry.
-/
import Derived.Test.YtfnndnlhdfjggaaChecked
import GoSem.Claim
import GoSem.ClaimJoined
import GoSem.ClaimMapViews
import Derived.JoinedTies
import Derived.KernelRfl
namespace Go.Proofs.Ytfnndnlhdfjggaa
/- THE CELL 'sum', in the pinned program and in every row, IS THE sha256 OF THE DUMP (.gsa) THAT YtfnndnlhdfjggaaProg.lean LOADS. Nothing in Lean hashes anything: it is a label: what it is worth is what the hold of that sum in a sandbox is worth. -/
noncomputable def Try.pinned : Pinned := { name := "ytfnndnlhdfjggaa", sum := "79b19825b8ea34ad7b88063c30ad47fcbd873f47bec5cc850c74af5ad66832a5", checked := Try.checked }
namespace Rows
def none {H : Type} : Left H := { results := [], args := [] }

/-- 'rubricatorlaw22.EditTemplate': WHATEVER THE INPUT: true; the input reads as it did. -/
def editTemplateSpec : ChangeSpec := { name := "editTemplate", fn := fun _ => fun
  | [d1, d2, d3] => { results := [.lit (.bool true)], args := [d1, d2, d3] }
  | _ => none }
def editTemplateRow : OpenClaim := { program := "ytfnndnlhdfjggaa", sum := "79b19825b8ea34ad7b88063c30ad47fcbd873f47bec5cc850c74af5ad66832a5", func := "rubricator/rubricatorlaw22.EditTemplate", spec := "editTemplate", inPlace := ["internal/bytealg.IndexByte"], unfollowed := true, recurses := true, apart := false }
def EditTemplateSaid : Prop := editTemplateRow.holds Try.pinned (OpenSpec.ofChange editTemplateSpec)

/-- ITS FALSE NEIGHBOUR: 'it returns false'. Refute it at one input. -/
def editTemplateWrong : ChangeSpec := { name := "editTemplate", fn := fun _ => fun
  | [d1, d2, d3] => { results := [.lit (.bool false)], args := [d1, d2, d3] }
  | _ => none }
def EditTemplateWrongFalsely : Prop := editTemplateRow.holds Try.pinned (OpenSpec.ofChange editTemplateWrong)

/-- 'rubricatorlaw22.EditReplace': WHATEVER THE INPUT: true; the input reads as it did. -/
def editReplaceSpec : ChangeSpec := { name := "editReplace", fn := fun _ => fun
  | [d1, d2, d3] => { results := [.lit (.bool true)], args := [d1, d2, d3] }
  | _ => none }
def editReplaceRow : OpenClaim := { program := "ytfnndnlhdfjggaa", sum := "79b19825b8ea34ad7b88063c30ad47fcbd873f47bec5cc850c74af5ad66832a5", func := "rubricator/rubricatorlaw22.EditReplace", spec := "editReplace", inPlace := ["internal/bytealg.IndexByte"], apart := false }
def EditReplaceSaid : Prop := editReplaceRow.holds Try.pinned (OpenSpec.ofChange editReplaceSpec)

/-- ITS FALSE NEIGHBOUR: 'it returns false'. Refute it at one input. -/
def editReplaceWrong : ChangeSpec := { name := "editReplace", fn := fun _ => fun
  | [d1, d2, d3] => { results := [.lit (.bool false)], args := [d1, d2, d3] }
  | _ => none }
def EditReplaceWrongFalsely : Prop := editReplaceRow.holds Try.pinned (OpenSpec.ofChange editReplaceWrong)

/-- 'rubricatorlaw22.EditSplit': WHATEVER THE INPUT: true; the input reads as it did. -/
def editSplitSpec : ChangeSpec := { name := "editSplit", fn := fun _ => fun
  | [d1, d2] => { results := [.lit (.bool true)], args := [d1, d2] }
  | _ => none }
def editSplitRow : OpenClaim := { program := "ytfnndnlhdfjggaa", sum := "79b19825b8ea34ad7b88063c30ad47fcbd873f47bec5cc850c74af5ad66832a5", func := "rubricator/rubricatorlaw22.EditSplit", spec := "editSplit", inPlace := ["internal/bytealg.IndexByte"], unfollowed := true, recurses := true, apart := false }
def EditSplitSaid : Prop := editSplitRow.holds Try.pinned (OpenSpec.ofChange editSplitSpec)

/-- ITS FALSE NEIGHBOUR: 'it returns false'. Refute it at one input. -/
def editSplitWrong : ChangeSpec := { name := "editSplit", fn := fun _ => fun
  | [d1, d2] => { results := [.lit (.bool false)], args := [d1, d2] }
  | _ => none }
def EditSplitWrongFalsely : Prop := editSplitRow.holds Try.pinned (OpenSpec.ofChange editSplitWrong)

/-- 'rubricatorlaw22.EditRebuilds': WHATEVER THE INPUT: true; the input reads as it did. -/
def editRebuildsSpec : ChangeSpec := { name := "editRebuilds", fn := fun _ => fun
  | [d1, d2] => { results := [.lit (.bool true)], args := [d1, d2] }
  | _ => none }
def editRebuildsRow : OpenClaim := { program := "ytfnndnlhdfjggaa", sum := "79b19825b8ea34ad7b88063c30ad47fcbd873f47bec5cc850c74af5ad66832a5", func := "rubricator/rubricatorlaw22.EditRebuilds", spec := "editRebuilds", inPlace := ["internal/bytealg.IndexByte"], apart := false }
def EditRebuildsSaid : Prop := editRebuildsRow.holds Try.pinned (OpenSpec.ofChange editRebuildsSpec)

/-- ITS FALSE NEIGHBOUR: 'it returns false'. Refute it at one input. -/
def editRebuildsWrong : ChangeSpec := { name := "editRebuilds", fn := fun _ => fun
  | [d1, d2] => { results := [.lit (.bool false)], args := [d1, d2] }
  | _ => none }
def EditRebuildsWrongFalsely : Prop := editRebuildsRow.holds Try.pinned (OpenSpec.ofChange editRebuildsWrong)

/-- 'rubricatorlaw22.EditSelf': WHATEVER THE INPUT: true; the input reads as it did. -/
def editSelfSpec : ChangeSpec := { name := "editSelf", fn := fun _ => fun
  | [d1, d2, d3] => { results := [.lit (.bool true)], args := [d1, d2, d3] }
  | _ => none }
def editSelfRow : OpenClaim := { program := "ytfnndnlhdfjggaa", sum := "79b19825b8ea34ad7b88063c30ad47fcbd873f47bec5cc850c74af5ad66832a5", func := "rubricator/rubricatorlaw22.EditSelf", spec := "editSelf", inPlace := ["internal/bytealg.IndexByte", "internal/bytealg.MakeNoZero"], apart := false }
def EditSelfSaid : Prop := editSelfRow.holds Try.pinned (OpenSpec.ofChange editSelfSpec)

/-- ITS FALSE NEIGHBOUR: 'it returns false'. Refute it at one input. -/
def editSelfWrong : ChangeSpec := { name := "editSelf", fn := fun _ => fun
  | [d1, d2, d3] => { results := [.lit (.bool false)], args := [d1, d2, d3] }
  | _ => none }
def EditSelfWrongFalsely : Prop := editSelfRow.holds Try.pinned (OpenSpec.ofChange editSelfWrong)

/- THE SECOND FORM. 'bulk': how many values and letters a reading holds, each counted each time it is reached (what is shared counts as often as it is met; a slice's spare places count too). A statement '..UptoSaid' is the law's where the arguments, and the package variables that the reading takes, are together of bulk at most 1048576: NARROWER than '..Said'. Prove '..Said' where nothing that the law and all that it calls make is longer than what came in: it says more and counts as full. Else prove '..UptoSaid'. A law counts once. -/
mutual
def uptoBulk {H : Type} : DataW H → Nat
  | .lit (.string bytes) => bytes.length + 1
  | .lit _ => 1
  | .nil => 1
  | .ptr d => uptoBulk d + 1
  | .slice elems spare => uptoBulkAll elems + uptoBulkAll spare + 1
  | .agg parts => uptoBulkAll parts + 1
  | .iface _ d => uptoBulk d + 1
  | .map entries => uptoBulkEntries entries + 1
  | .held _ => 1
def uptoBulkAll {H : Type} : List (DataW H) → Nat
  | [] => 0
  | d :: r => uptoBulk d + uptoBulkAll r
def uptoBulkEntries {H : Type} : List (Lit × DataW H) → Nat
  | [] => 0
  | x :: r => uptoBulkEntry x + uptoBulkEntries r
def uptoBulkEntry {H : Type} : Lit × DataW H → Nat
  | (.string bytes, d) => bytes.length + uptoBulk d + 1
  | (_, d) => uptoBulk d + 1
 end
def uptoSmall : (H : Type) → List (DataW H) → Bool := fun _ ds => decide (uptoBulkAll ds ≤ 1048576)
def OpenSpec.upto (s : _root_.Go.ChangeSpec) : _root_.Go.OpenSpec := { _root_.Go.OpenSpec.ofChange s with cond := some uptoSmall }

/-- 'rubricatorlaw22.EditTemplate', WHERE WHAT IT READS IS OF BULK AT MOST 1048576: true; the input reads as it did. -/
def editTemplateUptoRow : OpenClaim := { program := "ytfnndnlhdfjggaa", sum := "79b19825b8ea34ad7b88063c30ad47fcbd873f47bec5cc850c74af5ad66832a5", func := "rubricator/rubricatorlaw22.EditTemplate", spec := "editTemplate", inPlace := ["internal/bytealg.IndexByte"], unfollowed := true, recurses := true, apart := false, narrowed := true }
def EditTemplateUptoSaid : Prop := editTemplateUptoRow.holds Try.pinned (OpenSpec.upto editTemplateSpec)

/-- 'rubricatorlaw22.EditReplace', WHERE WHAT IT READS IS OF BULK AT MOST 1048576: true; the input reads as it did. -/
def editReplaceUptoRow : OpenClaim := { program := "ytfnndnlhdfjggaa", sum := "79b19825b8ea34ad7b88063c30ad47fcbd873f47bec5cc850c74af5ad66832a5", func := "rubricator/rubricatorlaw22.EditReplace", spec := "editReplace", inPlace := ["internal/bytealg.IndexByte"], apart := false, narrowed := true }
def EditReplaceUptoSaid : Prop := editReplaceUptoRow.holds Try.pinned (OpenSpec.upto editReplaceSpec)

/-- 'rubricatorlaw22.EditSplit', WHERE WHAT IT READS IS OF BULK AT MOST 1048576: true; the input reads as it did. -/
def editSplitUptoRow : OpenClaim := { program := "ytfnndnlhdfjggaa", sum := "79b19825b8ea34ad7b88063c30ad47fcbd873f47bec5cc850c74af5ad66832a5", func := "rubricator/rubricatorlaw22.EditSplit", spec := "editSplit", inPlace := ["internal/bytealg.IndexByte"], unfollowed := true, recurses := true, apart := false, narrowed := true }
def EditSplitUptoSaid : Prop := editSplitUptoRow.holds Try.pinned (OpenSpec.upto editSplitSpec)

/-- 'rubricatorlaw22.EditRebuilds', WHERE WHAT IT READS IS OF BULK AT MOST 1048576: true; the input reads as it did. -/
def editRebuildsUptoRow : OpenClaim := { program := "ytfnndnlhdfjggaa", sum := "79b19825b8ea34ad7b88063c30ad47fcbd873f47bec5cc850c74af5ad66832a5", func := "rubricator/rubricatorlaw22.EditRebuilds", spec := "editRebuilds", inPlace := ["internal/bytealg.IndexByte"], apart := false, narrowed := true }
def EditRebuildsUptoSaid : Prop := editRebuildsUptoRow.holds Try.pinned (OpenSpec.upto editRebuildsSpec)

/-- 'rubricatorlaw22.EditSelf', WHERE WHAT IT READS IS OF BULK AT MOST 1048576: true; the input reads as it did. -/
def editSelfUptoRow : OpenClaim := { program := "ytfnndnlhdfjggaa", sum := "79b19825b8ea34ad7b88063c30ad47fcbd873f47bec5cc850c74af5ad66832a5", func := "rubricator/rubricatorlaw22.EditSelf", spec := "editSelf", inPlace := ["internal/bytealg.IndexByte", "internal/bytealg.MakeNoZero"], apart := false, narrowed := true }
def EditSelfUptoSaid : Prop := editSelfUptoRow.holds Try.pinned (OpenSpec.upto editSelfSpec)

end Rows
end Go.Proofs.Ytfnndnlhdfjggaa
