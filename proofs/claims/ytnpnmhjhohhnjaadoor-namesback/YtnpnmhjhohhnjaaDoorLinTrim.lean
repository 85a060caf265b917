/- What lines.trimmed answers of any string: it without blanks and tabs at its ends. -/
import Derived.Test.YtnpnmhjhohhnjaaDoorLinHex
import Derived.Test.YtnpnmhjhohhnjaaDoorLinShelf
import Derived.Lib.SlTrimSet
set_option linter.unusedVariables false
set_option linter.unusedSimpArgs false
namespace Go.Proofs.YtnpnmhjhohhnjaaDoor.lin
open Go.RowKit

/-- A string without blanks and tabs at its ends. -/
def trim (s : ByteArray) : ByteArray := ⟨(Lib.trimS s.data.toList [32, 9]).toArray⟩

theorem dropWhile_len {α : Type} (p : α → Bool) (l : List α) : (l.dropWhile p).length ≤ l.length := (List.dropWhile_suffix p).length_le
theorem trim_size (s : ByteArray) : (trim s).size ≤ s.size := by
  unfold trim
  show (Lib.trimS s.data.toList [32, 9]).toArray.size ≤ s.data.size
  have h : (Lib.trimS s.data.toList [32, 9]).length ≤ s.data.toList.length := by
    unfold Lib.trimS Lib.trimRightS Lib.trimLeftS
    refine Nat.le_trans (dropWhile_len _ _) ?_
    rw [List.length_reverse]
    refine Nat.le_trans (dropWhile_len _ _) ?_
    rw [List.length_reverse]
    exact Nat.le_refl _
  simpa using h

theorem clone_any (s : ByteArray) (w : World) (hs : s.size ≤ 281474976710656) :
    Calls Tryd.prog 78 #[.string s] w fun e w' => e = .returned (.string s) ∧ Below w.heap.size w w' := by
  have CL := Tryd.stringslite_Clone s w hs
  go_enter Tryd.func78, Tryd.ntmps78
  go_wp2_with (go_at_call 82; refine CL.mono ?_; rintro e w' ⟨rfl, hb⟩)
  go_ret
  exact ⟨rfl, by assumption⟩

theorem trimmed_any (s : ByteArray) (w : World) (hs : s.size ≤ 281474976710656) :
    Calls Tryd.prog 71 #[.string s] w fun e w' => e = .returned (.string (trim s)) ∧ Below w.heap.size w w' := by
  have TR := Tryd.strings_Trim_laid s ⟨#[32, 9]⟩ w (by omega) (by decide) (ascii_of_all (by decide))
  have TR2 : Calls Tryd.prog 79 #[.string s, .string ⟨#[32, 9]⟩] w fun e w' => e = .returned (.string (trim s)) ∧ Below w.heap.size w w' := TR
  have hts := trim_size s
  clear TR
  generalize trim s = t at *
  go_enter Tryd.func71, Tryd.ntmps71
  go_wp2_with fail
  refine TR2.mono ?_
  rintro e w1 ⟨rfl, hb1⟩
  go_wp2_with fail
  refine (clone_any t w1 (by omega)).mono ?_
  rintro e w2 ⟨rfl, hb2⟩
  have hb := hb1.trans (hb2.mono hb1.size)
  clear TR2 hb1 hb2
  go_wp2
  go_ret
  exact ⟨rfl, hb⟩
end Go.Proofs.YtnpnmhjhohhnjaaDoor.lin
