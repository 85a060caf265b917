/- Rows of matches of one span each in memory; whether they may be (the document's may). -/
import Derived.Test.YtpdkdfgcnhcmkaaEdtSpan
set_option linter.unusedVariables false
set_option linter.unusedSimpArgs false
namespace Go.Proofs.Ytpdkdfgcnhcmkaa.edt
open Go.RowKit

/-- From the address on lie n matches, each of one span. -/
structure FS (w : World) (ao : Option Addr) (n cap : Nat) (l : List Sp) : Prop where
  len : l.length = n
  nc : n ≤ cap
  cm : cap ≤ 9223372036854775807
  cell : n = 0 ∨ ∃ b off, ao = some ⟨b, off, none⟩ ∧ ∀ i, i < n → ∃ g, w.cell? ⟨b, off + i, none⟩ = some (.slice (some ⟨g, 0, none⟩) 1 1) ∧ w.cell? ⟨g, 0, none⟩ = some (.int .i64 (l.getD i (0, 0)).1) ∧ w.cell? ⟨g, 1, none⟩ = some (.int .i64 (l.getD i (0, 0)).2)
theorem FS.below {w w' : World} {ao : Option Addr} {n cap : Nat} {l : List Sp} (h : FS w ao n cap l) (hb : Below w.heap.size w w') : FS w' ao n cap l := by
  refine ⟨h.len, h.nc, h.cm, ?_⟩
  rcases h.cell with k | ⟨b, off, rfl, k⟩
  · exact .inl k
  · refine .inr ⟨b, off, rfl, fun i hi => ?_⟩
    obtain ⟨g, h1, h2, h3⟩ := k i hi
    exact ⟨g, (hb.cell (World.block_lt_of_cell? w _ h1)).trans h1, (hb.cell (World.block_lt_of_cell? w _ h2)).trans h2, (hb.cell (World.block_lt_of_cell? w _ h3)).trans h3⟩
theorem FS.at_ {w : World} {ao : Option Addr} {n cap : Nat} {l : List Sp} (h : FS w ao n cap l) (h0 : 0 < n) : ∃ b off, ao = some ⟨b, off, none⟩ ∧ ∀ i, i < n → ∃ g, w.cell? ⟨b, off + i, none⟩ = some (.slice (some ⟨g, 0, none⟩) 1 1) ∧ w.cell? ⟨g, 0, none⟩ = some (.int .i64 (l.getD i (0, 0)).1) ∧ w.cell? ⟨g, 1, none⟩ = some (.int .i64 (l.getD i (0, 0)).2) := by
  rcases h.cell with h | h
  · omega
  · exact h
theorem ly_no (p : Sp) (a z : Int) (h0 : 0 ≤ a) (h : ly p 0 z = false) : ly p a z = false := by
  cases e : ly p a z with
  | false => rfl
  | true =>
    have := (ly_iff _ _ _).1 e
    rw [(ly_iff p 0 z).2 ⟨by omega, this.2.1, this.2.2⟩] at h
    cases h
theorem ly_low (p : Sp) (a z : Int) (h : p.1 < a) : ly p a z = false := by
  cases e : ly p a z with
  | false => rfl
  | true => have := (ly_iff _ _ _).1 e; omega
theorem ly_up (p : Sp) (a z : Int) (h : ly p 0 z = true) (ha : a ≤ p.1) : ly p a z = true := by
  have := (ly_iff _ _ _).1 h
  exact (ly_iff _ _ _).2 ⟨ha, this.2⟩

end Go.Proofs.Ytpdkdfgcnhcmkaa.edt
