/- Texts that the proof leans on, one behind the other. -/
import Derived.Test.YtjbcapnpknbbaaaGreatRngSmall
import Derived.Deep.RegionWith

section
/- Nothing: slices.SortFunc is not reached here. -/
end

section
/- What ranges.rising answers: the ranges that mean something, cut to code points, by their beginnings. -/
set_option linter.unusedVariables false
set_option linter.unusedSimpArgs false
namespace Go.Proofs.YtjbcapnpknbbaaaGreat.rng
open Go.RowKit

theorem two_new (w : World) (o : Obj) (x y : Value) (t : TypeId) : ∀ (j : Nat) (u : Value), [x, y][j]? = some u → ((w.alloc o).alloc (Obj.cells #[x, y] t)).cell? ((⟨w.heap.size + 1, 0, none⟩ : Addr).add j) = some u := by
  intro j u hj
  match j, hj with
  | 0, hj => simp at hj; subst hj; simp [Addr.add]
  | 1, hj => simp at hj; subst hj; simp [Addr.add]
  | k + 2, hj => simp at hj
theorem flat_two (x y : Int) : flat [(x, y)] = [.int .i64 x, .int .i64 y] := rfl

end Go.Proofs.YtjbcapnpknbbaaaGreat.rng
end

section
/- What ranges.Make answers: the set that a list means. -/
set_option linter.unusedVariables false
set_option linter.unusedSimpArgs false
namespace Go.Proofs.YtjbcapnpknbbaaaGreat.rng
open Go.RowKit

theorem one_new (w : World) (x y : Value) (t : TypeId) : ∀ (j : Nat) (u : Value), [x, y][j]? = some u → (w.alloc (Obj.cells #[x, y] t)).cell? ((⟨w.heap.size, 0, none⟩ : Addr).add j) = some u := by
  intro j u hj
  match j, hj with
  | 0, hj => simp at hj; subst hj; simp [Addr.add]
  | 1, hj => simp at hj; subst hj; simp [Addr.add]
  | k + 2, hj => simp at hj
/-- The last range of a row of the call's own. -/
theorem own_last {w : World} {B : Nat} {v : Value} {i : List R} {q : R} (h : w.ownsRow B 44 2 v (i ++ [q]).length (flat (i ++ [q]))) :
    ∃ g c, v = .slice (some ⟨g, 0, none⟩) (i.length + 1) c ∧ B ≤ g ∧ g < w.heap.size ∧ i.length + 1 ≤ c ∧ c ≤ maxLen ∧ w.cell? ⟨g, i.length * 2, none⟩ = some (.int .i64 q.1) ∧ w.cell? ⟨g, i.length * 2 + 1, none⟩ = some (.int .i64 q.2) ∧ w.frozen? ⟨g, i.length * 2 + 1, none⟩ = false := by
  have hl : (i ++ [q]).length = i.length + 1 := by simp
  rcases h.2 with ⟨_, h0⟩ | ⟨g, c, cur, rfl, hg, hgg, hc, hm, _⟩
  · rw [hl] at h0; omega
  · have hq : (i ++ [q])[i.length]? = some q := by simp
    obtain ⟨e1, e2⟩ := flat_get _ _ _ hq
    exact ⟨g, c, by rw [hl], hg, (Array.getElem?_eq_some_iff.1 hgg).1, by omega, hm, (h.cellAt _ (by omega)).trans e1, (h.cellAt _ (by omega)).trans e2, h.frozenAt _⟩
theorem flat_set (i : List R) (a b c : Int) : (flat (i ++ [(a, b)])).set (i.length * 2 + 1) (.int .i64 c) = flat (i ++ [(a, c)]) := by
  have hl := flat_length i
  rw [flat_append, flat_append, List.set_append, if_neg (by omega), hl, show i.length * 2 + 1 - i.length * 2 = 1 by omega]; rfl
theorem own_mono {w : World} {base base' : Nat} {e : TypeId} {size : Nat} {v : Value} {n : Nat} {xs : List Value} (h : w.ownsRow base e size v n xs) (hb : base' ≤ base) : w.ownsRow base' e size v n xs :=
  ⟨h.1, h.2.imp id fun ⟨g, c, cur, e1, e2, r⟩ => ⟨g, c, cur, e1, Nat.le_trans hb e2, r⟩⟩
theorem own_setHi {w : World} {B g c : Nat} {i : List R} {a b e : Int} (h : w.ownsRow B 44 2 (.slice (some ⟨g, 0, none⟩) (i.length + 1) c) (i ++ [(a, b)]).length (flat (i ++ [(a, b)]))) :
    (w.setCell ⟨g, i.length * 2 + 1, none⟩ (.int .i64 e)).ownsRow B 44 2 (.slice (some ⟨g, 0, none⟩) (i.length + 1) c) (i ++ [(a, e)]).length (flat (i ++ [(a, e)])) := by
  have hl : (i ++ [(a, b)]).length = i.length + 1 := by simp
  have hl' : (i ++ [(a, e)]).length = i.length + 1 := by simp
  rw [hl] at h
  rw [hl']
  have := (h.stored (i.length * 2 + 1) (.int .i64 e)).1
  rwa [flat_set] at this

end Go.Proofs.YtjbcapnpknbbaaaGreat.rng
end

section
/- What ranges.edges and ranges.edgeAt answer; ranges.Size. -/
set_option linter.unusedVariables false
set_option linter.unusedSimpArgs false
namespace Go.Proofs.YtjbcapnpknbbaaaGreat.rng
open Go.RowKit

/-- The cells of numbers. -/
def cellsI (l : List Int) : List Value := l.map (Value.int .i64)
def OwnI (w : World) (base : Nat) (v : Value) (l : List Int) : Prop := w.ownsRow base 3 1 v l.length (cellsI l)
theorem OwnI.below {w w' : World} {B : Nat} {v : Value} {l : List Int} (h : OwnI w B v l) (hb : Below w.heap.size w w') : OwnI w' B v l := own_below' h hb
/-- The numbers l can be read from the address on. -/
def IV (w : World) (ao : Option Addr) (l : List Int) : Prop :=
  l = [] ∨ ∃ b off, ao = some ⟨b, off, none⟩ ∧ ∀ i x, l[i]? = some x → w.cell? ⟨b, off + i, none⟩ = some (.int .i64 x)
theorem IV.below {w w' : World} {ao : Option Addr} {l : List Int} (h : IV w ao l) (hb : Below w.heap.size w w') : IV w' ao l := by
  rcases h with h | ⟨b, off, rfl, h⟩
  · exact .inl h
  · exact .inr ⟨b, off, rfl, fun i p hi => (hb.cell (World.block_lt_of_cell? w _ (h i p hi))).trans (h i p hi)⟩
theorem IV.some {w : World} {ao : Option Addr} {l : List Int} (h : IV w ao l) (h0 : 0 < l.length) : ∃ b off, ao = some ⟨b, off, none⟩ ∧ ∀ i x, l[i]? = Option.some x → w.cell? ⟨b, off + i, none⟩ = Option.some (.int .i64 x) := by
  rcases h with rfl | h
  · simp at h0
  · exact h
theorem OwnI.view {w : World} {B : Nat} {v : Value} {l : List Int} (h : OwnI w B v l) : ∃ ao cap, v = .slice ao l.length cap ∧ IV w ao l ∧ l.length ≤ cap ∧ cap ≤ maxLen := by
  rcases h.2 with ⟨rfl, h0⟩ | ⟨g, cap, cur, rfl, hg, hgg, hc, hm, hs, ht⟩
  · exact ⟨none, 0, by rw [h0], .inl (List.eq_nil_of_length_eq_zero h0), by omega, by unfold maxLen; omega⟩
  · refine ⟨_, cap, rfl, .inr ⟨g, 0, rfl, fun i x hi => ?_⟩, hc, hm⟩
    have hil : i < l.length := (List.getElem?_eq_some_iff.1 hi).1
    have h' : w.ownsRow B 3 1 (.slice (some ⟨g, 0, none⟩) l.length cap) l.length (cellsI l) := h
    rw [Nat.zero_add]
    refine (h'.cellAt _ (by omega)).trans ?_
    unfold cellsI
    rw [List.getElem?_map, hi]; rfl

theorem two_int (w : World) (o : Obj) (x y : Value) (t : TypeId) : ∀ (j : Nat) (u : Value), [x, y][j]? = some u → ((w.alloc o).alloc (Obj.cells #[x, y] t)).cell? ((⟨w.heap.size + 1, 0, none⟩ : Addr).add j) = some u := two_new w o x y t

theorem eat_get {l : List Int} {i : Nat} {x : Int} (h : l[i]? = some x) : eat l i = x := by unfold eat; rw [List.getD_eq_getElem?_getD, h]; rfl
end Go.Proofs.YtjbcapnpknbbaaaGreat.rng
end
