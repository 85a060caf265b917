/- Rows of spans in memory; whether they stand apart (lies, apart; the document's fits). -/
import Derived.Test.YtpdkdfgcnhcmkaaEdtMem
import Derived.Test.YtpdkdfgcnhcmkaaEdtPure
set_option linter.unusedVariables false
set_option linter.unusedSimpArgs false
namespace Go.Proofs.Ytpdkdfgcnhcmkaa.edt
open Go.RowKit

abbrev Sp := Int × Int
/-- From the address on lie n spans. -/
structure SS (w : World) (ao : Option Addr) (n cap : Nat) (l : List Sp) : Prop where
  len : l.length = n
  nc : n ≤ cap
  cm : cap ≤ 9223372036854775807
  cell : n = 0 ∨ ∃ b off, ao = some ⟨b, off, none⟩ ∧ ∀ i, i < n → w.cell? ⟨b, off + i * 2, none⟩ = some (.int .i64 (l.getD i (0, 0)).1) ∧ w.cell? ⟨b, off + i * 2 + 1, none⟩ = some (.int .i64 (l.getD i (0, 0)).2)
theorem SS.below {w w' : World} {ao : Option Addr} {n cap : Nat} {l : List Sp} (h : SS w ao n cap l) (hb : Below w.heap.size w w') : SS w' ao n cap l := by
  refine ⟨h.len, h.nc, h.cm, ?_⟩
  rcases h.cell with k | ⟨b, off, rfl, k⟩
  · exact .inl k
  · exact .inr ⟨b, off, rfl, fun i hi => ⟨(hb.cell (World.block_lt_of_cell? w _ (k i hi).1)).trans (k i hi).1, (hb.cell (World.block_lt_of_cell? w _ (k i hi).2)).trans (k i hi).2⟩⟩
theorem SS.at_ {w : World} {ao : Option Addr} {n cap : Nat} {l : List Sp} (h : SS w ao n cap l) (h0 : 0 < n) : ∃ b off, ao = some ⟨b, off, none⟩ ∧ ∀ i, i < n → w.cell? ⟨b, off + i * 2, none⟩ = some (.int .i64 (l.getD i (0, 0)).1) ∧ w.cell? ⟨b, off + i * 2 + 1, none⟩ = some (.int .i64 (l.getD i (0, 0)).2) := by
  rcases h.cell with h | h
  · omega
  · exact h
/-- Whether a span stands between two places, not falling. -/
def ly (p : Sp) (a z : Int) : Bool := decide (a ≤ p.1) && decide (p.1 ≤ p.2) && decide (p.2 ≤ z)
/-- Whether spans stand each behind the one ahead. -/
def apB (z : Int) : Int → List Sp → Bool
  | _, [] => true
  | e, p :: r => ly p e z && apB z p.2 r
theorem ly_iff (p : Sp) (a z : Int) : ly p a z = true ↔ a ≤ p.1 ∧ p.1 ≤ p.2 ∧ p.2 ≤ z := by simp [ly, and_assoc]
theorem apB_drop (z e : Int) (l : List Sp) (k : Nat) (h : k < l.length) : apB z e (l.drop k) = (ly (l.getD k (0, 0)) e z && apB z (l.getD k (0, 0)).2 (l.drop (k + 1))) := by
  rw [drop_cons l k (0, 0) h]; rfl

end Go.Proofs.Ytpdkdfgcnhcmkaa.edt
