/-
  NARROWER THAN 'FOR EVERY INPUT', by the rows' own cells (each row's printed sentence says how): UtfDecodes: laid · UtfEncodes: laid · UtfSteps: laid · UtfStands: laid · UtfBack: laid · UtfAgain: laid.
  DERIVED. THE GIVEN ROWS OF THIS SEAT. 6 by the template 'for every input the law returns true; each argument reads behind the call as it read before'; 0 by the template 'total and deterministic' (their statements: YtcjcfokmfklmeaaDoorTotals.lean).
  GIVEN WITH THE SEED: the statements are not yours to turn. If you find one false, say at which input.
  Laid BY PROGRAM, IN A SANDBOX (cutbox-rows.mjs): the forced cells as the released guide's own fill.sh prints them over the translation 726213b1c8d2f858… (all of the seat's roots in one cut). By AI agents, Wed Nov 11 2026. No macro, syntax, notation, axiom, sorry.
-/
import Derived.Test.YtcjcfokmfklmeaaDoorChecked
import GoSem.Claim
import GoSem.ClaimJoined
import GoSem.ClaimMapViews
import Derived.JoinedTies
import Derived.KernelRfl
namespace Go.Proofs.YtcjcfokmfklmeaaDoor
/- THE CELL 'sum', in the pinned program and in every row, IS THE sha256 OF THE DUMP (.gsa) THAT YtcjcfokmfklmeaaDoorProg.lean LOADS. Nothing in Lean hashes anything: it is a label: what it is worth is what the hold of that sum in a sandbox is worth. -/
noncomputable def Tryd.pinned : Pinned := { name := "ytcjcfokmfklmeaadoor", sum := "726213b1c8d2f858f392b5d52a95480f4440f27a7981940b2303c8dbf33bf38f", checked := Tryd.checked }
namespace Rows
def none {H : Type} : Left H := { results := [], args := [] }

/- WHAT THE LISTED PACKAGE-LEVEL VARIABLES READ AS WHEN THE CALL BEGINS. Each datum BY PROGRAM (the guide's laid-datum.mjs) off the statement by which the dump's own 'gosem.cut.vars' lays the variable. In a bare row this is a premise. The card (YtcjcfokmfklmeaaDoorCards.lean) ties it to the program's text. -/
def laid_rubricator_utf_firstMarks {H : Type} : DataW H := .agg [.lit (.int .u8 0), .lit (.int .u8 0), .lit (.int .u8 192), .lit (.int .u8 224), .lit (.int .u8 240)]

/-- 'rubricatorlaw01.UtfDecodes': WHATEVER THE INPUT: true; the input reads as it did. -/
def utfDecodesSpec : ChangeSpec := { name := "utfDecodes", fn := fun _ => fun
  | [d] => { results := [.lit (.bool true)], args := [d] }
  | _ => none }
def utfDecodesRow : OpenClaim := { program := "ytcjcfokmfklmeaadoor", sum := "726213b1c8d2f858f392b5d52a95480f4440f27a7981940b2303c8dbf33bf38f", func := "rubricator/rubricatorlaw01.UtfDecodes", spec := "utfDecodes", named := ["rubricator/utf.firstMarks"], apart := false, laid := [("rubricator/utf.firstMarks", laid_rubricator_utf_firstMarks)] }
def UtfDecodesSaid : Prop := utfDecodesRow.holds Tryd.pinned (OpenSpec.ofChange utfDecodesSpec)

/-- ITS FALSE NEIGHBOUR: 'it returns false'. Refute it at one input. -/
def utfDecodesWrong : ChangeSpec := { name := "utfDecodes", fn := fun _ => fun
  | [d] => { results := [.lit (.bool false)], args := [d] }
  | _ => none }
def UtfDecodesWrongFalsely : Prop := utfDecodesRow.holds Tryd.pinned (OpenSpec.ofChange utfDecodesWrong)

/-- 'rubricatorlaw01.UtfEncodes': WHATEVER THE INPUT: true; the input reads as it did. -/
def utfEncodesSpec : ChangeSpec := { name := "utfEncodes", fn := fun _ => fun
  | [d] => { results := [.lit (.bool true)], args := [d] }
  | _ => none }
def utfEncodesRow : OpenClaim := { program := "ytcjcfokmfklmeaadoor", sum := "726213b1c8d2f858f392b5d52a95480f4440f27a7981940b2303c8dbf33bf38f", func := "rubricator/rubricatorlaw01.UtfEncodes", spec := "utfEncodes", named := ["rubricator/utf.firstMarks"], apart := false, laid := [("rubricator/utf.firstMarks", laid_rubricator_utf_firstMarks)] }
def UtfEncodesSaid : Prop := utfEncodesRow.holds Tryd.pinned (OpenSpec.ofChange utfEncodesSpec)

/-- ITS FALSE NEIGHBOUR: 'it returns false'. Refute it at one input. -/
def utfEncodesWrong : ChangeSpec := { name := "utfEncodes", fn := fun _ => fun
  | [d] => { results := [.lit (.bool false)], args := [d] }
  | _ => none }
def UtfEncodesWrongFalsely : Prop := utfEncodesRow.holds Tryd.pinned (OpenSpec.ofChange utfEncodesWrong)

/-- 'rubricatorlaw01.UtfSteps': WHATEVER THE INPUT: true; the input reads as it did. -/
def utfStepsSpec : ChangeSpec := { name := "utfSteps", fn := fun _ => fun
  | [d1, d2] => { results := [.lit (.bool true)], args := [d1, d2] }
  | _ => none }
def utfStepsRow : OpenClaim := { program := "ytcjcfokmfklmeaadoor", sum := "726213b1c8d2f858f392b5d52a95480f4440f27a7981940b2303c8dbf33bf38f", func := "rubricator/rubricatorlaw01.UtfSteps", spec := "utfSteps", named := ["rubricator/utf.firstMarks"], apart := false, laid := [("rubricator/utf.firstMarks", laid_rubricator_utf_firstMarks)] }
def UtfStepsSaid : Prop := utfStepsRow.holds Tryd.pinned (OpenSpec.ofChange utfStepsSpec)

/-- ITS FALSE NEIGHBOUR: 'it returns false'. Refute it at one input. -/
def utfStepsWrong : ChangeSpec := { name := "utfSteps", fn := fun _ => fun
  | [d1, d2] => { results := [.lit (.bool false)], args := [d1, d2] }
  | _ => none }
def UtfStepsWrongFalsely : Prop := utfStepsRow.holds Tryd.pinned (OpenSpec.ofChange utfStepsWrong)

/-- 'rubricatorlaw01.UtfStands': WHATEVER THE INPUT: true; the input reads as it did. -/
def utfStandsSpec : ChangeSpec := { name := "utfStands", fn := fun _ => fun
  | [d] => { results := [.lit (.bool true)], args := [d] }
  | _ => none }
def utfStandsRow : OpenClaim := { program := "ytcjcfokmfklmeaadoor", sum := "726213b1c8d2f858f392b5d52a95480f4440f27a7981940b2303c8dbf33bf38f", func := "rubricator/rubricatorlaw01.UtfStands", spec := "utfStands", named := ["rubricator/utf.firstMarks"], apart := false, laid := [("rubricator/utf.firstMarks", laid_rubricator_utf_firstMarks)] }
def UtfStandsSaid : Prop := utfStandsRow.holds Tryd.pinned (OpenSpec.ofChange utfStandsSpec)

/-- ITS FALSE NEIGHBOUR: 'it returns false'. Refute it at one input. -/
def utfStandsWrong : ChangeSpec := { name := "utfStands", fn := fun _ => fun
  | [d] => { results := [.lit (.bool false)], args := [d] }
  | _ => none }
def UtfStandsWrongFalsely : Prop := utfStandsRow.holds Tryd.pinned (OpenSpec.ofChange utfStandsWrong)

/-- 'rubricatorlaw01.UtfBack': WHATEVER THE INPUT: true; the input reads as it did. -/
def utfBackSpec : ChangeSpec := { name := "utfBack", fn := fun _ => fun
  | [d] => { results := [.lit (.bool true)], args := [d] }
  | _ => none }
def utfBackRow : OpenClaim := { program := "ytcjcfokmfklmeaadoor", sum := "726213b1c8d2f858f392b5d52a95480f4440f27a7981940b2303c8dbf33bf38f", func := "rubricator/rubricatorlaw01.UtfBack", spec := "utfBack", named := ["rubricator/utf.firstMarks"], apart := false, laid := [("rubricator/utf.firstMarks", laid_rubricator_utf_firstMarks)] }
def UtfBackSaid : Prop := utfBackRow.holds Tryd.pinned (OpenSpec.ofChange utfBackSpec)

/-- ITS FALSE NEIGHBOUR: 'it returns false'. Refute it at one input. -/
def utfBackWrong : ChangeSpec := { name := "utfBack", fn := fun _ => fun
  | [d] => { results := [.lit (.bool false)], args := [d] }
  | _ => none }
def UtfBackWrongFalsely : Prop := utfBackRow.holds Tryd.pinned (OpenSpec.ofChange utfBackWrong)

/-- 'rubricatorlaw01.UtfAgain': WHATEVER THE INPUT: true; the input reads as it did. -/
def utfAgainSpec : ChangeSpec := { name := "utfAgain", fn := fun _ => fun
  | [d] => { results := [.lit (.bool true)], args := [d] }
  | _ => none }
def utfAgainRow : OpenClaim := { program := "ytcjcfokmfklmeaadoor", sum := "726213b1c8d2f858f392b5d52a95480f4440f27a7981940b2303c8dbf33bf38f", func := "rubricator/rubricatorlaw01.UtfAgain", spec := "utfAgain", named := ["rubricator/utf.firstMarks"], apart := false, laid := [("rubricator/utf.firstMarks", laid_rubricator_utf_firstMarks)] }
def UtfAgainSaid : Prop := utfAgainRow.holds Tryd.pinned (OpenSpec.ofChange utfAgainSpec)

/-- ITS FALSE NEIGHBOUR: 'it returns false'. Refute it at one input. -/
def utfAgainWrong : ChangeSpec := { name := "utfAgain", fn := fun _ => fun
  | [d] => { results := [.lit (.bool false)], args := [d] }
  | _ => none }
def UtfAgainWrongFalsely : Prop := utfAgainRow.holds Tryd.pinned (OpenSpec.ofChange utfAgainWrong)

/- THE SECOND FORM. 'bulk': how many values and letters a reading holds, each counted each time it is reached (what is shared counts as often as it is met; a slice's spare places count too). A statement '..UptoSaid' is the law's where the arguments, and the package variables that the reading takes, are together of bulk at most 1048576: NARROWER than '..Said'. Prove '..Said' where nothing that the law and all that it calls make is longer than what came in: it says more and counts as full. Else prove '..UptoSaid'. A law counts once. -/
mutual
def uptoBulk {H : Type} : DataW H → Nat
  | .lit (.string bytes) => bytes.length + 1
  | .lit _ => 1
  | .nil => 1
  | .ptr d => uptoBulk d + 1
  | .slice elems spare => uptoBulkAll elems + uptoBulkAll spare + 1
  | .agg parts => uptoBulkAll parts + 1
  | .iface _ d => uptoBulk d + 1
  | .map entries => uptoBulkEntries entries + 1
  | .held _ => 1
def uptoBulkAll {H : Type} : List (DataW H) → Nat
  | [] => 0
  | d :: r => uptoBulk d + uptoBulkAll r
def uptoBulkEntries {H : Type} : List (Lit × DataW H) → Nat
  | [] => 0
  | x :: r => uptoBulkEntry x + uptoBulkEntries r
def uptoBulkEntry {H : Type} : Lit × DataW H → Nat
  | (.string bytes, d) => bytes.length + uptoBulk d + 1
  | (_, d) => uptoBulk d + 1
 end
def uptoSmall : (H : Type) → List (DataW H) → Bool := fun _ ds => decide (uptoBulkAll ds ≤ 1048576)
def OpenSpec.upto (s : _root_.Go.ChangeSpec) : _root_.Go.OpenSpec := { _root_.Go.OpenSpec.ofChange s with cond := some uptoSmall }

/-- 'rubricatorlaw01.UtfDecodes', WHERE WHAT IT READS IS OF BULK AT MOST 1048576: true; the input reads as it did. -/
def utfDecodesUptoRow : OpenClaim := { program := "ytcjcfokmfklmeaadoor", sum := "726213b1c8d2f858f392b5d52a95480f4440f27a7981940b2303c8dbf33bf38f", func := "rubricator/rubricatorlaw01.UtfDecodes", spec := "utfDecodes", named := ["rubricator/utf.firstMarks"], apart := false, laid := [("rubricator/utf.firstMarks", laid_rubricator_utf_firstMarks)], narrowed := true }
def UtfDecodesUptoSaid : Prop := utfDecodesUptoRow.holds Tryd.pinned (OpenSpec.upto utfDecodesSpec)

/-- 'rubricatorlaw01.UtfEncodes', WHERE WHAT IT READS IS OF BULK AT MOST 1048576: true; the input reads as it did. -/
def utfEncodesUptoRow : OpenClaim := { program := "ytcjcfokmfklmeaadoor", sum := "726213b1c8d2f858f392b5d52a95480f4440f27a7981940b2303c8dbf33bf38f", func := "rubricator/rubricatorlaw01.UtfEncodes", spec := "utfEncodes", named := ["rubricator/utf.firstMarks"], apart := false, laid := [("rubricator/utf.firstMarks", laid_rubricator_utf_firstMarks)], narrowed := true }
def UtfEncodesUptoSaid : Prop := utfEncodesUptoRow.holds Tryd.pinned (OpenSpec.upto utfEncodesSpec)

/-- 'rubricatorlaw01.UtfSteps', WHERE WHAT IT READS IS OF BULK AT MOST 1048576: true; the input reads as it did. -/
def utfStepsUptoRow : OpenClaim := { program := "ytcjcfokmfklmeaadoor", sum := "726213b1c8d2f858f392b5d52a95480f4440f27a7981940b2303c8dbf33bf38f", func := "rubricator/rubricatorlaw01.UtfSteps", spec := "utfSteps", named := ["rubricator/utf.firstMarks"], apart := false, laid := [("rubricator/utf.firstMarks", laid_rubricator_utf_firstMarks)], narrowed := true }
def UtfStepsUptoSaid : Prop := utfStepsUptoRow.holds Tryd.pinned (OpenSpec.upto utfStepsSpec)

/-- 'rubricatorlaw01.UtfStands', WHERE WHAT IT READS IS OF BULK AT MOST 1048576: true; the input reads as it did. -/
def utfStandsUptoRow : OpenClaim := { program := "ytcjcfokmfklmeaadoor", sum := "726213b1c8d2f858f392b5d52a95480f4440f27a7981940b2303c8dbf33bf38f", func := "rubricator/rubricatorlaw01.UtfStands", spec := "utfStands", named := ["rubricator/utf.firstMarks"], apart := false, laid := [("rubricator/utf.firstMarks", laid_rubricator_utf_firstMarks)], narrowed := true }
def UtfStandsUptoSaid : Prop := utfStandsUptoRow.holds Tryd.pinned (OpenSpec.upto utfStandsSpec)

/-- 'rubricatorlaw01.UtfBack', WHERE WHAT IT READS IS OF BULK AT MOST 1048576: true; the input reads as it did. -/
def utfBackUptoRow : OpenClaim := { program := "ytcjcfokmfklmeaadoor", sum := "726213b1c8d2f858f392b5d52a95480f4440f27a7981940b2303c8dbf33bf38f", func := "rubricator/rubricatorlaw01.UtfBack", spec := "utfBack", named := ["rubricator/utf.firstMarks"], apart := false, laid := [("rubricator/utf.firstMarks", laid_rubricator_utf_firstMarks)], narrowed := true }
def UtfBackUptoSaid : Prop := utfBackUptoRow.holds Tryd.pinned (OpenSpec.upto utfBackSpec)

/-- 'rubricatorlaw01.UtfAgain', WHERE WHAT IT READS IS OF BULK AT MOST 1048576: true; the input reads as it did. -/
def utfAgainUptoRow : OpenClaim := { program := "ytcjcfokmfklmeaadoor", sum := "726213b1c8d2f858f392b5d52a95480f4440f27a7981940b2303c8dbf33bf38f", func := "rubricator/rubricatorlaw01.UtfAgain", spec := "utfAgain", named := ["rubricator/utf.firstMarks"], apart := false, laid := [("rubricator/utf.firstMarks", laid_rubricator_utf_firstMarks)], narrowed := true }
def UtfAgainUptoSaid : Prop := utfAgainUptoRow.holds Tryd.pinned (OpenSpec.upto utfAgainSpec)

end Rows
end Go.Proofs.YtcjcfokmfklmeaaDoor
