/- Texts that the proof leans on, one behind the other. -/
import Derived.Test.YtinlolmjafjhnaaGreatDoorBdRng3
import Derived.Test.YtinlolmjafjhnaaGreatDoorBdRng4
import Derived.Lib.SliceRun

section
/- The calls of ranges and of the document's answer, at lists wherever they lie; slices.Clone; awake. -/
set_option linter.unusedVariables false
set_option linter.unusedSimpArgs false
namespace Go.Proofs.YtinlolmjafjhnaaGreatDoor.rng
open Go.RowKit

/-- v is a slice that reads as the ranges l. -/
def Sl (w : World) (v : Value) (l : List R) : Prop := ∃ ao cap, v = .slice ao l.length cap ∧ RV w ao l ∧ (ao = none → cap = 0)
theorem Sl.below {w w' : World} {v : Value} {l : List R} (h : Sl w v l) (hb : Below w.heap.size w w') : Sl w' v l := by
 obtain ⟨ao, cap, e, hv, h0⟩ := h
 exact ⟨ao, cap, e, hv.below hb, h0⟩
theorem Own.sl {w : World} {B : Nat} {v : Value} {l : List R} (h : Own w B v l) : Sl w v l := by
 obtain ⟨ao, cap, e, hv, _, _⟩ := h.view
 refine ⟨ao, cap, e, hv, fun h0 => ?_⟩
 rcases h.2 with ⟨e2, _⟩ | ⟨g, c, cur, e2, _⟩
 ·rw [e2] at e; injection e with e3 e4 e5; exact e5.symm
 ·rw [e2] at e; injection e with e3 e4 e5; rw [h0] at e3; cases e3

theorem make_s (v : Value) (l : List R) (w : World) (hs : Sl w v l) (hn : l.length ≤ 1000000) :
  Calls Tryz.prog 135 #[v] w fun e w' => ∃ v' r, e = .returned v' ∧ Sl w' v' r ∧ IsSet r (has l) ∧ Below w.heap.size w w' := by
 obtain ⟨ao, cap, rfl, hv, h0⟩ := hs
 refine (make_any ao cap l w (by omega) hv).mono ?_
 rintro e w' ⟨v', r, he, ho, hr, hb⟩
 exact ⟨v', r, he, ho.sl, hr, hb⟩
theorem has_s (v : Value) (l : List R) (x : Int) (w : World) (hs : Sl w v l) (hn : l.length ≤ 1000000) :
  Calls Tryz.prog 95 #[v, .int .i64 x] w fun e w' => e = .returned (.bool (has l x)) ∧ Below w.heap.size w w' := by
 obtain ⟨ao, cap, rfl, hv, h0⟩ := hs
 exact has_any ao cap l x w (by omega) hv
/-- A list of ranges that came in. -/
def Arg (w : World) (v : Value) (l : List R) : Prop := ∃ ao cap, v = .slice ao l.length cap ∧ RV w ao l ∧ (ao = none → cap = 0) ∧ l.length ≤ cap ∧ cap ≤ 9223372036854775807
end Go.Proofs.YtinlolmjafjhnaaGreatDoor.rng
end
