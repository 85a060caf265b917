/- Texts that the proof leans on, one behind the other. -/
import Derived.Test.YtnjomfmdogkhgaaGreatDoorBnd29
import Derived.Test.YtnjomfmdogkhgaaGreatDoorBnd30
import Derived.Lib.SliceRun

section
/- The calls of ranges and of the document's answer, at lists wherever they lie; slices.Clone; awake. -/
set_option linter.unusedVariables false
set_option linter.unusedSimpArgs false
namespace Go.Proofs.YtnjomfmdogkhgaaGreatDoor.rng
open Go.RowKit

/-- v is a slice that reads as the ranges l. -/
def Sl (w : World) (v : Value) (l : List R) : Prop := ∃ ao cap, v = .slice ao l.length cap ∧ RV w ao l ∧ (ao = none → cap = 0)
theorem Sl.below {w w' : World} {v : Value} {l : List R} (h : Sl w v l) (hb : Below w.heap.size w w') : Sl w' v l := by
  obtain ⟨ao, cap, e, hv, h0⟩ := h
  exact ⟨ao, cap, e, hv.below hb, h0⟩
theorem Own.sl {w : World} {B : Nat} {v : Value} {l : List R} (h : Own w B v l) : Sl w v l := by
  obtain ⟨ao, cap, e, hv, _, _⟩ := h.view
  refine ⟨ao, cap, e, hv, fun h0 => ?_⟩
  rcases h.2 with ⟨e2, _⟩ | ⟨g, c, cur, e2, _⟩
  · rw [e2] at e; injection e with e3 e4 e5; exact e5.symm
  · rw [e2] at e; injection e with e3 e4 e5; rw [h0] at e3; cases e3

theorem make_s (v : Value) (l : List R) (w : World) (hs : Sl w v l) (hn : l.length ≤ 1000000) :
    Calls Tryz.prog 79 #[v] w fun e w' => ∃ v' r, e = .returned v' ∧ Sl w' v' r ∧ IsSet r (has l) ∧ Below w.heap.size w w' := by
  obtain ⟨ao, cap, rfl, hv, h0⟩ := hs
  refine (make_any ao cap l w (by omega) hv).mono ?_
  rintro e w' ⟨v', r, he, ho, hr, hb⟩
  exact ⟨v', r, he, ho.sl, hr, hb⟩
theorem rmake_s (v : Value) (l : List R) (w : World) (hs : Sl w v l) (hn : l.length ≤ 1000000) :
    Calls Tryz.prog 85 #[v] w fun e w' => ∃ v' r, e = .returned v' ∧ Sl w' v' r ∧ IsSet r (has l) ∧ Below w.heap.size w w' := by
  obtain ⟨ao, cap, rfl, hv, h0⟩ := hs
  refine (rmake_any ao cap l w hn hv h0).mono ?_
  rintro e w' ⟨v', r, he, ho, hr, hb⟩
  exact ⟨v', r, he, ho.sl, hr, hb⟩
theorem rnot_s (v : Value) (l : List R) (w : World) (hs : Sl w v l) (hn : l.length ≤ 1000000) :
    Calls Tryz.prog 58 #[v] w fun e w' => ∃ v' r, e = .returned v' ∧ Sl w' v' r ∧ IsSet r (fun x => !has l x) ∧ Below w.heap.size w w' := by
  obtain ⟨ao, cap, rfl, hv, h0⟩ := hs
  refine (rnot_any ao cap l w hn hv h0).mono ?_
  rintro e w' ⟨v', r, he, ho, hr, hb⟩
  exact ⟨v', r, he, ho.sl, hr, hb⟩
theorem union_s (v1 v2 : Value) (l m : List R) (w : World) (h1 : Sl w v1 l) (h2 : Sl w v2 m) (hn : l.length ≤ 1000000) (hm : m.length ≤ 1000000) :
    Calls Tryz.prog 81 #[v1, v2] w fun e w' => ∃ v' r, e = .returned v' ∧ Sl w' v' r ∧ IsSet r (fun x => has l x || has m x) ∧ Below w.heap.size w w' := by
  obtain ⟨a1, c1, rfl, k1, z1⟩ := h1
  obtain ⟨a2, c2, rfl, k2, z2⟩ := h2
  refine (union_any a1 a2 c1 c2 l m w hn hm k1 k2).mono ?_
  rintro e w' ⟨v', r, he, ho, hr, hb⟩
  exact ⟨v', r, he, ho.sl, hr, hb⟩
theorem runion_s (v1 v2 : Value) (l m : List R) (w : World) (h1 : Sl w v1 l) (h2 : Sl w v2 m) (hn : l.length ≤ 1000000) (hm : m.length ≤ 1000000) :
    Calls Tryz.prog 60 #[v1, v2] w fun e w' => ∃ v' r, e = .returned v' ∧ Sl w' v' r ∧ IsSet r (fun x => has l x || has m x) ∧ Below w.heap.size w w' := by
  obtain ⟨a1, c1, rfl, k1, z1⟩ := h1
  obtain ⟨a2, c2, rfl, k2, z2⟩ := h2
  refine (runion_any a1 a2 c1 c2 l m w hn hm k1 k2 z1 z2).mono ?_
  rintro e w' ⟨v', r, he, ho, hr, hb⟩
  exact ⟨v', r, he, ho.sl, hr, hb⟩
theorem rhas_s (v : Value) (l : List R) (x : Int) (w : World) (hs : Sl w v l) (hn : l.length ≤ 1000000) :
    Calls Tryz.prog 30 #[v, .int .i64 x] w fun e w' => e = .returned (.bool (has l x)) ∧ Below w.heap.size w w' := by
  obtain ⟨ao, cap, rfl, hv, h0⟩ := hs
  exact rhas_any ao cap l x w (by omega) hv
theorem equal_s (v1 v2 : Value) (l m : List R) (w : World) (h1 : Sl w v1 l) (h2 : Sl w v2 m) (hn : l.length ≤ 1000000) (e : l = m) :
    Calls Tryz.prog 29 #[v1, v2] w fun e w' => e = .returned (.bool true) ∧ Below w.heap.size w w' := by
  subst e
  obtain ⟨a1, c1, rfl, k1, z1⟩ := h1
  obtain ⟨a2, c2, rfl, k2, z2⟩ := h2
  exact equal_same a1 a2 c1 c2 l w (by omega) k1 k2

theorem rv_two (w : World) (x y a b : Int) : RV (w.alloc (.cells #[.int .i64 x, .int .i64 y, .int .i64 a, .int .i64 b] 40)) (some ⟨w.heap.size, 0, none⟩) [(x, y), (a, b)] := by
  refine .inr ⟨_, _, rfl, fun i p hi => ?_⟩
  match i, hi with
  | 0, hi => simp at hi; subst hi; simp
  | 1, hi => simp at hi; subst hi; simp
  | k + 2, hi => simp at hi
theorem awake_set {r : List R} (h : IsSet r (has [(8, 9), (5, 7)])) : r = [(5, 9)] := by
  refine h.eq (IsSet.self (r := [(5, 9)]) ⟨by decide, by decide, by decide, trivial⟩) (fun x _ => ?_)
  rw [Bool.eq_iff_iff, has_iff, has_iff]
  simp only [List.mem_cons, List.mem_nil_iff, or_false, exists_eq_or_imp, exists_eq_left, code_iff]
  omega
/-- A list of ranges that came in. -/
def Arg (w : World) (v : Value) (l : List R) : Prop := ∃ ao cap, v = .slice ao l.length cap ∧ RV w ao l ∧ (ao = none → cap = 0) ∧ l.length ≤ cap ∧ cap ≤ 9223372036854775807
end Go.Proofs.YtnjomfmdogkhgaaGreatDoor.rng
end
