/- What strings.Builder holds, byte by byte. -/
import Derived.Test.YtnpnmhjhohhnjaaDoorNamPure
import Derived.Lib.AppendStr
import Derived.Lib.OthersKept
import Derived.Lib.FrozenHead
set_option linter.unusedVariables false
set_option linter.unusedSimpArgs false
namespace Go.Proofs.YtnpnmhjhohhnjaaDoor.nam
open Go.RowKit lin

/-- The builder in block B holds l. -/
def Bd (w : World) (B : Nat) (l : List UInt8) : Prop := Lib.IsBuilderF 41 5 B B (Lib.byteCells l) w
theorem Bd.lt {w : World} {B : Nat} {l : List UInt8} (h : Bd w B l) : B < w.heap.size := by
  rcases h with h | h
  · exact h.lt
  · exact h.lt
theorem byteCells_append (a b : List UInt8) : Lib.byteCells (a ++ b) = Lib.byteCells a ++ Lib.byteCells b := by simp [Lib.byteCells]
theorem wbyte_any (B : Nat) (l : List UInt8) (c : Int) (w : World) (h : Bd w B l) (hlen : l.length + 1 ≤ 140737488355328) (h0 : 0 ≤ c) (h1 : c < 256) :
    Calls Tryd.prog 19 #[.pointer (some ⟨B, 0, none⟩), .int .u8 c] w fun e w' => e = .returned .nilIface ∧ Bd w' B (l ++ [UInt8.ofNat c.toNat]) ∧ Below B w w' := by
  refine (Any.Builder_WriteByte_k { Tryd.lays158 with } Tryd.Builder_Extra_158 B B (Lib.byteCells l) c w h (by rw [Lib.byteCells_length]; exact hlen) (Nat.le_of_lt h.lt)).mono ?_
  rintro e w' ⟨rfl, h2, h3, _⟩
  refine ⟨rfl, .inr ?_, h3⟩
  rw [byteCells_append]
  have : Lib.byteCells [UInt8.ofNat c.toNat] = [.int .u8 c] := by simp [Lib.byteCells]; omega
  rw [this]
  exact h2
theorem len_any (B : Nat) (l : List UInt8) (w : World) (h : Bd w B l) :
    Calls Tryd.prog 20 #[.pointer (some ⟨B, 0, none⟩)] w fun e w' => e = .returned (.int .i64 l.length) ∧ w' = w :=
  (Tryd.Builder_Len_f B B (Lib.byteCells l) w h).mono fun e w' ⟨h1, h2⟩ => ⟨by rw [h1, Lib.byteCells_length], h2⟩
theorem string_any (B : Nat) (l : List UInt8) (w : World) (h : Bd w B l) :
    Calls Tryd.prog 21 #[.pointer (some ⟨B, 0, none⟩)] w fun e w' => e = .returned (.string (BA l)) ∧ Below B w w' :=
  (Tryd.Builder_String_any_k B B l w h (Nat.le_of_lt h.lt)).mono fun e w' ⟨h1, _, h3, _⟩ => ⟨h1, h3⟩
theorem Bd.new (w : World) : Bd (w.alloc (.cells #[.pointer none, .slice none 0 0] 41)) w.heap.size [] :=
  .inl ⟨Nat.le_refl _, .slice none 0 0, World.alloc_heap_new w _, World.ownsRowF_nil _ _ _ _, by simp [Value.ownBlock]⟩
end Go.Proofs.YtnpnmhjhohhnjaaDoor.nam
