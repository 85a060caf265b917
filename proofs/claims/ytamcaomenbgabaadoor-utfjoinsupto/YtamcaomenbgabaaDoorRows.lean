/-
  NARROWER THAN 'FOR EVERY INPUT', by the rows' own cells (each row's printed sentence says how): UtfForward: laid · UtfJoins: laid.
  DERIVED. THE GIVEN ROWS OF THIS SEAT. 2 by the template 'for every input the law returns true; each argument reads behind the call as it read before'; 0 by the template 'total and deterministic' (their statements: YtamcaomenbgabaaDoorTotals.lean).
  GIVEN WITH THE SEED: the statements are not yours to turn. If you find one false, say at which input.
  Laid BY PROGRAM, IN A SANDBOX (cutbox-rows.mjs): the forced cells as the released guide's own fill.sh prints them over the translation 14de0721e51f5a09… (all of the seat's roots in one cut). By AI agents, Wed Nov 11 2026. No macro, syntax, notation, axiom, sorry.
-/
import Derived.Test.YtamcaomenbgabaaDoorChecked
import GoSem.Claim
import GoSem.ClaimJoined
import GoSem.ClaimMapViews
import Derived.JoinedTies
import Derived.KernelRfl
namespace Go.Proofs.YtamcaomenbgabaaDoor
/- THE CELL 'sum', in the pinned program and in every row, IS THE sha256 OF THE DUMP (.gsa) THAT YtamcaomenbgabaaDoorProg.lean LOADS. Nothing in Lean hashes anything: it is a label: what it is worth is what the hold of that sum in a sandbox is worth. -/
noncomputable def Tryd.pinned : Pinned := { name := "ytamcaomenbgabaadoor", sum := "14de0721e51f5a098e471c1d4278b4fcafbe11852af29b189011c4fb7806b218", checked := Tryd.checked }
namespace Rows
def none {H : Type} : Left H := { results := [], args := [] }

/- WHAT THE LISTED PACKAGE-LEVEL VARIABLES READ AS WHEN THE CALL BEGINS. Each datum BY PROGRAM (the guide's laid-datum.mjs) off the statement by which the dump's own 'gosem.cut.vars' lays the variable. In a bare row this is a premise. The card (YtamcaomenbgabaaDoorCards.lean) ties it to the program's text. -/
def laid_rubricator_utf_firstMarks {H : Type} : DataW H := .agg [.lit (.int .u8 0), .lit (.int .u8 0), .lit (.int .u8 192), .lit (.int .u8 224), .lit (.int .u8 240)]

/-- 'rubricatorlaw01.UtfForward': WHATEVER THE INPUT: true; the input reads as it did. -/
def utfForwardSpec : ChangeSpec := { name := "utfForward", fn := fun _ => fun
  | [d] => { results := [.lit (.bool true)], args := [d] }
  | _ => none }
def utfForwardRow : OpenClaim := { program := "ytamcaomenbgabaadoor", sum := "14de0721e51f5a098e471c1d4278b4fcafbe11852af29b189011c4fb7806b218", func := "rubricator/rubricatorlaw01.UtfForward", spec := "utfForward", named := ["rubricator/utf.firstMarks"], apart := false, laid := [("rubricator/utf.firstMarks", laid_rubricator_utf_firstMarks)] }
def UtfForwardSaid : Prop := utfForwardRow.holds Tryd.pinned (OpenSpec.ofChange utfForwardSpec)

/-- ITS FALSE NEIGHBOUR: 'it returns false'. Refute it at one input. -/
def utfForwardWrong : ChangeSpec := { name := "utfForward", fn := fun _ => fun
  | [d] => { results := [.lit (.bool false)], args := [d] }
  | _ => none }
def UtfForwardWrongFalsely : Prop := utfForwardRow.holds Tryd.pinned (OpenSpec.ofChange utfForwardWrong)

/-- 'rubricatorlaw01.UtfJoins': WHATEVER THE INPUT: true; the input reads as it did. -/
def utfJoinsSpec : ChangeSpec := { name := "utfJoins", fn := fun _ => fun
  | [d1, d2] => { results := [.lit (.bool true)], args := [d1, d2] }
  | _ => none }
def utfJoinsRow : OpenClaim := { program := "ytamcaomenbgabaadoor", sum := "14de0721e51f5a098e471c1d4278b4fcafbe11852af29b189011c4fb7806b218", func := "rubricator/rubricatorlaw01.UtfJoins", spec := "utfJoins", named := ["rubricator/utf.firstMarks"], apart := false, laid := [("rubricator/utf.firstMarks", laid_rubricator_utf_firstMarks)] }
def UtfJoinsSaid : Prop := utfJoinsRow.holds Tryd.pinned (OpenSpec.ofChange utfJoinsSpec)

/-- ITS FALSE NEIGHBOUR: 'it returns false'. Refute it at one input. -/
def utfJoinsWrong : ChangeSpec := { name := "utfJoins", fn := fun _ => fun
  | [d1, d2] => { results := [.lit (.bool false)], args := [d1, d2] }
  | _ => none }
def UtfJoinsWrongFalsely : Prop := utfJoinsRow.holds Tryd.pinned (OpenSpec.ofChange utfJoinsWrong)

/- THE SECOND FORM. 'bulk': how many values and letters a reading holds, each counted each time it is reached (what is shared counts as often as it is met; a slice's spare places count too). A statement '..UptoSaid' is the law's where the arguments, and the package variables that the reading takes, are together of bulk at most 1048576: NARROWER than '..Said'. Prove '..Said' where nothing that the law and all that it calls make is longer than what came in: it says more and counts as full. Else prove '..UptoSaid'. A law counts once. -/
mutual
def uptoBulk {H : Type} : DataW H → Nat
  | .lit (.string bytes) => bytes.length + 1
  | .lit _ => 1
  | .nil => 1
  | .ptr d => uptoBulk d + 1
  | .slice elems spare => uptoBulkAll elems + uptoBulkAll spare + 1
  | .agg parts => uptoBulkAll parts + 1
  | .iface _ d => uptoBulk d + 1
  | .map entries => uptoBulkEntries entries + 1
  | .held _ => 1
def uptoBulkAll {H : Type} : List (DataW H) → Nat
  | [] => 0
  | d :: r => uptoBulk d + uptoBulkAll r
def uptoBulkEntries {H : Type} : List (Lit × DataW H) → Nat
  | [] => 0
  | x :: r => uptoBulkEntry x + uptoBulkEntries r
def uptoBulkEntry {H : Type} : Lit × DataW H → Nat
  | (.string bytes, d) => bytes.length + uptoBulk d + 1
  | (_, d) => uptoBulk d + 1
 end
def uptoSmall : (H : Type) → List (DataW H) → Bool := fun _ ds => decide (uptoBulkAll ds ≤ 1048576)
def OpenSpec.upto (s : _root_.Go.ChangeSpec) : _root_.Go.OpenSpec := { _root_.Go.OpenSpec.ofChange s with cond := some uptoSmall }

/-- 'rubricatorlaw01.UtfForward', WHERE WHAT IT READS IS OF BULK AT MOST 1048576: true; the input reads as it did. -/
def utfForwardUptoRow : OpenClaim := { program := "ytamcaomenbgabaadoor", sum := "14de0721e51f5a098e471c1d4278b4fcafbe11852af29b189011c4fb7806b218", func := "rubricator/rubricatorlaw01.UtfForward", spec := "utfForward", named := ["rubricator/utf.firstMarks"], apart := false, laid := [("rubricator/utf.firstMarks", laid_rubricator_utf_firstMarks)], narrowed := true }
def UtfForwardUptoSaid : Prop := utfForwardUptoRow.holds Tryd.pinned (OpenSpec.upto utfForwardSpec)

/-- 'rubricatorlaw01.UtfJoins', WHERE WHAT IT READS IS OF BULK AT MOST 1048576: true; the input reads as it did. -/
def utfJoinsUptoRow : OpenClaim := { program := "ytamcaomenbgabaadoor", sum := "14de0721e51f5a098e471c1d4278b4fcafbe11852af29b189011c4fb7806b218", func := "rubricator/rubricatorlaw01.UtfJoins", spec := "utfJoins", named := ["rubricator/utf.firstMarks"], apart := false, laid := [("rubricator/utf.firstMarks", laid_rubricator_utf_firstMarks)], narrowed := true }
def UtfJoinsUptoSaid : Prop := utfJoinsUptoRow.holds Tryd.pinned (OpenSpec.upto utfJoinsSpec)

end Rows
end Go.Proofs.YtamcaomenbgabaaDoor
