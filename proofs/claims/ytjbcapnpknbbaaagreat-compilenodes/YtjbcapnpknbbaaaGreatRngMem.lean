/- Lists of ranges in memory: rows of the call's own, and rows that are read; slices.Equal and short. -/
import Derived.Test.YtjbcapnpknbbaaaGreatProg
import Derived.Test.YtjbcapnpknbbaaaGreatBndRngPure
import Derived.WalkKit
import Derived.WalkSpells
import Derived.WalkLawsBesides
import Derived.Outline
import Derived.Deep.QuietTactic
import Derived.BigQuiet
set_option linter.unusedVariables false
set_option linter.unusedSimpArgs false
namespace Go.Proofs.YtjbcapnpknbbaaaGreat.rng
open Go.RowKit

theorem ret_int {k : IntKind} {a b : Int} (h : a = b) : Ending.returned (.int k a) = .returned (.int k b) := by rw [h]
theorem ret_bool {a b : Bool} (h : a = b) : Ending.returned (.bool a) = .returned (.bool b) := by rw [h]
theorem below_drewN {B : Nat} {a w : World} (h : Below B a w) (q : Nat) : Below B a (w.drewN q) := ⟨h.os, h.tape, h.output, h.size, h.block⟩
theorem info_parts {P : Program} {t : TypeId} {z : Value} {s b : Nat} (h : (P.info? t).map (fun i => (i.zero, i.size, i.bytes)) = some (some z, s, b)) : ∃ i, P.info? t = some i ∧ i.zero = some z ∧ i.size = s ∧ i.bytes = b := by
  cases hi : P.info? t with
  | none => rw [hi] at h; cases h
  | some i => rw [hi] at h; simp at h; exact ⟨i, rfl, h.1, h.2.1, h.2.2⟩
theorem infoRange : (Tryz.prog.info? 44).map (fun i => (i.zero, i.size, i.bytes)) = some (some (.agg #[.int .i64 0, .int .i64 0]), 2, 16) := by kernel_rfl
theorem infoInt : (Tryz.prog.info? 3).map (fun i => (i.zero, i.size, i.bytes)) = some (some (.int .i64 0), 1, 8) := by kernel_rfl

/-- The cells of ranges. -/
def flat (l : List R) : List Value := l.flatMap fun p => [.int .i64 p.1, .int .i64 p.2]
theorem flat_cons (p : R) (l : List R) : flat (p :: l) = .int .i64 p.1 :: .int .i64 p.2 :: flat l := rfl
theorem flat_append (l r : List R) : flat (l ++ r) = flat l ++ flat r := by simp [flat]
theorem flat_length (l : List R) : (flat l).length = l.length * 2 := by
  induction l with
  | nil => rfl
  | cons x l ih => rw [flat_cons]; simp; omega
theorem flat_get : ∀ (l : List R) (i : Nat) (p : R), l[i]? = some p → (flat l)[i * 2]? = some (.int .i64 p.1) ∧ (flat l)[i * 2 + 1]? = some (.int .i64 p.2)
  | [], i, p, h => by simp at h
  | x :: l, 0, p, h => by simp at h; subst h; exact ⟨rfl, rfl⟩
  | x :: l, i + 1, p, h => by
    have := flat_get l i p (by simpa using h)
    rw [flat_cons, show (i + 1) * 2 = i * 2 + 1 + 1 from by omega]
    simpa using this
theorem flat_one (l : List R) : ∀ u ∈ flat l, u.oneCell' = true := by
  intro u hu
  unfold flat at hu
  obtain ⟨q, hq, hu⟩ := List.mem_flatMap.1 hu
  simp only [List.mem_cons, List.mem_nil_iff, or_false] at hu
  rcases hu with rfl | rfl <;> rfl

/-- v is a row of the call's own, of ranges l. -/
def Own (w : World) (base : Nat) (v : Value) (l : List R) : Prop := w.ownsRow base 44 2 v l.length (flat l)
theorem own_below' {w w' : World} {B e size n : Nat} {v : Value} {xs : List Value} (h : w.ownsRow B e size v n xs) (hb : Below w.heap.size w w') : w'.ownsRow B e size v n xs := by
  refine ⟨h.1, ?_⟩
  rcases h.2 with hn | ⟨g, cap, cur, rfl, hg, hgg, rest⟩
  · exact .inl hn
  · exact .inr ⟨g, cap, cur, rfl, hg, by rw [hb.block g (Array.getElem?_eq_some_iff.1 hgg).1]; exact hgg, rest⟩
theorem Own.below {w w' : World} {B : Nat} {v : Value} {l : List R} (h : Own w B v l) (hb : Below w.heap.size w w') : Own w' B v l := own_below' h hb
theorem Own.nil (w : World) (B : Nat) : Own w B (.slice none 0 0) [] := World.ownsRow_nil _ _ _ _

/-- The ranges l can be read from the address on. -/
def RV (w : World) (ao : Option Addr) (l : List R) : Prop :=
  l = [] ∨ ∃ b off, ao = some ⟨b, off, none⟩ ∧ ∀ i p, l[i]? = some p → w.cell? ⟨b, off + i * 2, none⟩ = some (.int .i64 p.1) ∧ w.cell? ⟨b, off + i * 2 + 1, none⟩ = some (.int .i64 p.2)
theorem RV.nil (w : World) (ao : Option Addr) : RV w ao [] := .inl rfl
theorem RV.below {w w' : World} {ao : Option Addr} {l : List R} (h : RV w ao l) (hb : Below w.heap.size w w') : RV w' ao l := by
  rcases h with h | ⟨b, off, rfl, h⟩
  · exact .inl h
  · exact .inr ⟨b, off, rfl, fun i p hi => by
      obtain ⟨h1, h2⟩ := h i p hi
      exact ⟨(hb.cell (World.block_lt_of_cell? w _ h1)).trans h1, (hb.cell (World.block_lt_of_cell? w _ h2)).trans h2⟩⟩
theorem RV.some {w : World} {ao : Option Addr} {l : List R} (h : RV w ao l) (h0 : 0 < l.length) : ∃ b off, ao = some ⟨b, off, none⟩ ∧ ∀ i p, l[i]? = Option.some p → w.cell? ⟨b, off + i * 2, none⟩ = Option.some (.int .i64 p.1) ∧ w.cell? ⟨b, off + i * 2 + 1, none⟩ = Option.some (.int .i64 p.2) := by
  rcases h with rfl | h
  · simp at h0
  · exact h
theorem RV.take {w : World} {ao : Option Addr} {l : List R} (h : RV w ao l) (n : Nat) : RV w ao (l.take n) := by
  rcases h with rfl | ⟨b, off, rfl, h⟩
  · exact .inl (by simp)
  · exact .inr ⟨b, off, rfl, fun i p hi => h i p (by rw [List.getElem?_take] at hi; split at hi; exact hi; cases hi)⟩
theorem Own.view {w : World} {B : Nat} {v : Value} {l : List R} (h : Own w B v l) : ∃ ao cap, v = .slice ao l.length cap ∧ RV w ao l ∧ l.length ≤ cap ∧ cap ≤ maxLen := by
  rcases h.2 with ⟨rfl, h0⟩ | ⟨g, cap, cur, rfl, hg, hgg, hc, hm, hs, ht⟩
  · exact ⟨none, 0, by rw [h0], .inl (List.eq_nil_of_length_eq_zero h0), by omega, by unfold maxLen; omega⟩
  · refine ⟨_, cap, rfl, .inr ⟨g, 0, rfl, fun i p hi => ?_⟩, hc, hm⟩
    obtain ⟨e1, e2⟩ := flat_get l i p hi
    have hil : i < l.length := (List.getElem?_eq_some_iff.1 hi).1
    have h' : w.ownsRow B 44 2 (.slice (some ⟨g, 0, none⟩) l.length cap) l.length (flat l) := h
    rw [Nat.zero_add]
    exact ⟨(h'.cellAt _ (by omega)).trans e1, (h'.cellAt _ (by omega)).trans e2⟩

end Go.Proofs.YtjbcapnpknbbaaaGreat.rng
