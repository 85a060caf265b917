/- What ranges.combine answers, and so Union, Meet, Minus, Xor and Not: the set of what the way of both says. -/
import Derived.Test.YtmglljceklmngaaRngEdges
set_option linter.unusedVariables false
set_option linter.unusedSimpArgs false
namespace Go.Proofs.Ytmglljceklmngaa.rng
open Go.RowKit

theorem odd_eq (i : Nat) : ((i : Int) % 2 == 1) = decide (i % 2 = 1) := by
  rw [Bool.eq_iff_iff, beq_iff_eq, decide_eq_true_eq]; omega

theorem odd_eq1 (i : Nat) : (((i : Int) + 1) % 2 == 1) = decide ((i + 1) % 2 = 1) := by
  rw [Bool.eq_iff_iff, beq_iff_eq, decide_eq_true_eq]; omega

def allR : List R := [(0, 1114111)]
theorem has_all (x : Int) : has allR x = code x := by
  unfold allR; rw [has_cons, has_nil, Bool.or_false]
  cases h : code x
  · rfl
  · rw [(inP_iff (0, 1114111) x).2 ((code_iff x).1 h)]; rfl
theorem rv_all (w : World) : RV (w.alloc (.cells #[.int .i64 0, .int .i64 1114111] 43)) (some ⟨w.heap.size, 0, none⟩) allR := by
  refine .inr ⟨_, _, rfl, fun i p hi => ?_⟩
  have h0 : i = 0 := by have := (List.getElem?_eq_some_iff.1 hi).1; simp [allR] at this; exact this
  subst h0
  simp [allR] at hi
  subst hi
  simp
end Go.Proofs.Ytmglljceklmngaa.rng
