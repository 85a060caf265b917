/- The file's rows as they lie in memory. -/
import Derived.Test.YtnpnmhjhohhnjaaDoorNamTab
import Derived.Test.YtnpnmhjhohhnjaaDoorLinRefRows
set_option linter.unusedVariables false
set_option linter.unusedSimpArgs false
namespace Go.Proofs.YtnpnmhjhohhnjaaDoor.nam
open Go.RowKit lin

/-- A row: a slice of three strings. -/
def RowAt (w : World) (base : Nat) (x : Value) (r : R3) : Prop :=
  ∃ fg fo fc, x = .slice (some ⟨fg, fo, none⟩) 3 fc ∧ base ≤ fg ∧ fg < w.heap.size ∧ w.cell? ⟨fg, fo, none⟩ = some (.string (BA r.1)) ∧ w.cell? ⟨fg, fo + 1, none⟩ = some (.string (BA r.2.1)) ∧ w.cell? ⟨fg, fo + 1 + 1, none⟩ = some (.string (BA r.2.2))
theorem RowAt.of_cells {w w' : World} {base : Nat} {x : Value} {r : R3} (h : RowAt w base x r) (hs : w.heap.size ≤ w'.heap.size) (hc : ∀ g o, base ≤ g → g < w.heap.size → w'.cell? ⟨g, o, none⟩ = w.cell? ⟨g, o, none⟩) : RowAt w' base x r := by
  obtain ⟨fg, fo, fc, rfl, h1, h2, h3, h4, h5⟩ := h
  exact ⟨fg, fo, fc, rfl, h1, by omega, (hc _ _ h1 h2).trans h3, (hc _ _ h1 h2).trans h4, (hc _ _ h1 h2).trans h5⟩

/-- All rows. -/
structure FileAt (w : World) (base : Nat) (v : Value) (g cap : Nat) (vs : List Value) : Prop where
  val : v = .slice (some ⟨g, 0, none⟩) vs.length cap
  len : vs.length = rowsL.length
  low : base ≤ g
  lt : g < w.heap.size
  cell : ∀ i (h : i < vs.length), w.cell? ⟨g, 0 + i, none⟩ = some vs[i]
  row : ∀ (i : Nat) (x : Value) (r : R3), vs[i]? = some x → rowsL[i]? = some r → RowAt w base x r

theorem file_at {w : World} {base : Nat} {v : Value} (h : RowsAt w base v (rowsOf (cutV aliasB 10))) : ∃ g cap vs, FileAt w base v g cap vs := by
  rw [rows_eq] at h
  obtain ⟨L, hL, ho, hf⟩ := h
  have hlen : L.length = rowsL.length := by have := congrArg List.length hL; simpa using this
  have hpos : 0 < L.length := by rw [hlen, rows_n]; decide
  rcases ho.2 with hn | ⟨g, cap, cur, hv, hg, hgg, h3, h4, h5, h6⟩
  · omega
  · have hvl : (L.map (·.1)).length = L.length := List.length_map ..
    refine ⟨g, cap, L.map (·.1), ⟨by rw [hvl]; exact hv, by rw [hvl]; exact hlen, hg, (Array.getElem?_eq_some_iff.1 hgg).1, fun i hi => ?_, fun i x r hx hr => ?_⟩⟩
    · rw [Nat.zero_add, cell_of_row w g i cur _ _ hgg, ← Array.getElem?_toList, ← List.getElem?_take_of_lt (show i < L.length * 1 by rw [hvl] at hi; omega), h6, List.getElem?_eq_getElem hi]
    · rw [List.getElem?_map] at hx
      cases hq : L[i]? with
      | none => rw [hq] at hx; cases hx
      | some q =>
        rw [hq] at hx
        cases hx
        have h7 : q.2 = [BA r.1, BA r.2.1, BA r.2.2] := by
          have := congrArg (fun l => l[i]?) hL
          simp only [List.getElem?_map, hq, hr, Option.map_some, Option.some.injEq] at this
          exact this
        obtain ⟨fg, fo, fc, fcur, hfv, hfg, hfgg, hfc⟩ := hf q (List.mem_of_getElem? hq)
        rw [h7] at hfv hfc
        refine ⟨fg, fo, fc, hfv, hfg, (Array.getElem?_eq_some_iff.1 hfgg).1, ?_, ?_, ?_⟩
        · rw [cell_of_row w fg fo fcur _ _ hfgg]; exact hfc 0 (by simp)
        · rw [cell_of_row w fg (fo + 1) fcur _ _ hfgg]; exact hfc 1 (by simp)
        · rw [cell_of_row w fg (fo + 1 + 1) fcur _ _ hfgg]; exact hfc 2 (by simp)
end Go.Proofs.YtnpnmhjhohhnjaaDoor.nam
