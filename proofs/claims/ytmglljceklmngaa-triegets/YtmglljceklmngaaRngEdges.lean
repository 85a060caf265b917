/- What ranges.edges and ranges.edgeAt answer; ranges.Size. -/
import Derived.Test.YtmglljceklmngaaRngMake
set_option linter.unusedVariables false
set_option linter.unusedSimpArgs false
namespace Go.Proofs.Ytmglljceklmngaa.rng
open Go.RowKit

/-- The cells of numbers. -/
def cellsI (l : List Int) : List Value := l.map (Value.int .i64)
def OwnI (w : World) (base : Nat) (v : Value) (l : List Int) : Prop := w.ownsRow base 3 1 v l.length (cellsI l)
theorem OwnI.below {w w' : World} {B : Nat} {v : Value} {l : List Int} (h : OwnI w B v l) (hb : Below w.heap.size w w') : OwnI w' B v l := own_below' h hb
/-- The numbers l can be read from the address on. -/
def IV (w : World) (ao : Option Addr) (l : List Int) : Prop :=
  l = [] ∨ ∃ b off, ao = some ⟨b, off, none⟩ ∧ ∀ i x, l[i]? = some x → w.cell? ⟨b, off + i, none⟩ = some (.int .i64 x)
theorem IV.below {w w' : World} {ao : Option Addr} {l : List Int} (h : IV w ao l) (hb : Below w.heap.size w w') : IV w' ao l := by
  rcases h with h | ⟨b, off, rfl, h⟩
  · exact .inl h
  · exact .inr ⟨b, off, rfl, fun i p hi => (hb.cell (World.block_lt_of_cell? w _ (h i p hi))).trans (h i p hi)⟩
theorem IV.some {w : World} {ao : Option Addr} {l : List Int} (h : IV w ao l) (h0 : 0 < l.length) : ∃ b off, ao = some ⟨b, off, none⟩ ∧ ∀ i x, l[i]? = Option.some x → w.cell? ⟨b, off + i, none⟩ = Option.some (.int .i64 x) := by
  rcases h with rfl | h
  · simp at h0
  · exact h
theorem OwnI.view {w : World} {B : Nat} {v : Value} {l : List Int} (h : OwnI w B v l) : ∃ ao cap, v = .slice ao l.length cap ∧ IV w ao l ∧ l.length ≤ cap ∧ cap ≤ maxLen := by
  rcases h.2 with ⟨rfl, h0⟩ | ⟨g, cap, cur, rfl, hg, hgg, hc, hm, hs, ht⟩
  · exact ⟨none, 0, by rw [h0], .inl (List.eq_nil_of_length_eq_zero h0), by omega, by unfold maxLen; omega⟩
  · refine ⟨_, cap, rfl, .inr ⟨g, 0, rfl, fun i x hi => ?_⟩, hc, hm⟩
    have hil : i < l.length := (List.getElem?_eq_some_iff.1 hi).1
    have h' : w.ownsRow B 3 1 (.slice (some ⟨g, 0, none⟩) l.length cap) l.length (cellsI l) := h
    rw [Nat.zero_add]
    refine (h'.cellAt _ (by omega)).trans ?_
    unfold cellsI
    rw [List.getElem?_map, hi]; rfl

theorem two_int (w : World) (o : Obj) (x y : Value) (t : TypeId) : ∀ (j : Nat) (u : Value), [x, y][j]? = some u → ((w.alloc o).alloc (Obj.cells #[x, y] t)).cell? ((⟨w.heap.size + 1, 0, none⟩ : Addr).add j) = some u := two_new w o x y t

theorem eat_get {l : List Int} {i : Nat} {x : Int} (h : l[i]? = some x) : eat l i = x := by unfold eat; rw [List.getD_eq_getElem?_getD, h]; rfl
end Go.Proofs.Ytmglljceklmngaa.rng
