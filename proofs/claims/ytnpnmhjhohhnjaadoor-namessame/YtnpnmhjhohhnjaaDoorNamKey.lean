/- The keys of names' map: a kind and a name. -/
import Derived.Test.YtnpnmhjhohhnjaaDoorNamMap
import Derived.Test.YtnpnmhjhohhnjaaDoorChecked
set_option linter.unusedVariables false
set_option linter.unusedSimpArgs false
namespace Go.Proofs.YtnpnmhjhohhnjaaDoor.nam
open Go.Maps Go.RowKit

def ek (x : ByteArray × ByteArray) : Value := .agg #[.string x.1, .string x.2]
def okk (x : ByteArray × ByteArray) : Prop := x.1.size ≤ maxLen ∧ x.2.size ≤ maxLen
theorem types_n : Tryd.prog.types.size = Tryd.prog.types.size - 2 + 2 := by kernel_rfl
theorem key_type : Tryd.prog.keyType 55 = true := by kernel_rfl
theorem cells_name : Tryd.prog.cellsOf 55 = 2 := by kernel_rfl
theorem cells_string : Tryd.prog.cellsOf 9 = 1 := by kernel_rfl
theorem key_reads (x : ByteArray × ByteArray) (h : okk x) : ∃ l, keyOf Tryd.prog 55 (ek x) = some l := by
  have hf : (ek x).formed Tryd.prog 55 = true := by
    simp [ek, Value.formed, Tryd.underlying55]
    exact cells_name.symm
  have hs : ∀ (m : Nat) (s : ByteArray), s.size ≤ maxLen → Tryd.prog.keyLits (m + 1) 9 [.string s] = some [.string s.data.toList] := fun m s hs => by
    simp [Program.keyLits, Tryd.underlying9, hs]
  have hk : ∀ m, Tryd.prog.keyLits (m + 2 + 1) 55 (ek x).cells.toList = some [.string x.1.data.toList, .string x.2.data.toList] := fun m => by
    unfold Program.keyLits
    simp [Tryd.underlying55, cells_name, cells_string, hs _ _ h.1, hs _ _ h.2, ek, Value.cells]
  unfold keyOf
  rw [Tryd.underlying55]
  simp only [key_type, hf, Bool.and_self, if_true]
  rw [types_n, hk]
  exact ⟨_, rfl⟩
theorem key_law : WideMaps.KeyLaw Tryd.prog 55 := deep_law_laid (by kernel_rfl) (m := 3) (by omega) (of_decide_eq_true (by kernel_rfl)) (by kernel_rfl) (by rw [Tryd.underlying55])
theorem keyE : KeyE Tryd.prog 55 ek okk where
  keyed := Keyed.of_law key_law
  reads := key_reads
  inj := fun x y h => by
    unfold ek at h
    simp only [Value.agg.injEq, Array.mk.injEq, List.cons.injEq, Value.string.injEq] at h
    exact Prod.ext h.1 h.2.1
end Go.Proofs.YtnpnmhjhohhnjaaDoor.nam
