/- Texts that the proof leans on, one behind the other. -/
import Derived.Test.YtcmhkfiijdomiaaGreatDoorBdLin5
import Derived.Test.YtcmhkfiijdomiaaGreatDoorBdLin3

section
/- What lines.Rows answers of any text: the fields of each line that says something. -/
set_option linter.unusedVariables false
set_option linter.unusedSimpArgs false
namespace Go.Proofs.YtcmhkfiijdomiaaGreatDoor.lin
open Go.RowKit Go.Shelf
attribute [local go_sem] Oper.semAt_some

theorem infoStrs : (Tryz.prog.info? 40).map (fun i => (i.zero, i.size, i.bytes)) = some (some (.slice none 0 0), 1, 24) := by kernel_rfl

def rowOf (x : ByteArray) : List (List ByteArray) := if (fieldsV x).length = 0 then [] else [fieldsV x]
def rowsOf (ls : List ByteArray) : List (List ByteArray) := ls.flatMap rowOf
theorem rowsOf_snoc (pre : List ByteArray) (x : ByteArray) : rowsOf (pre ++ [x]) = rowsOf pre ++ rowOf x := by simp [rowsOf]
theorem rowsOf_len (pre : List ByteArray) : (rowsOf pre).length ≤ pre.length := by
  induction pre with
  | nil => exact Nat.le_refl _
  | cons x pre ih =>
    have : (rowOf x).length ≤ 1 := by unfold rowOf; split <;> simp
    simp only [rowsOf, List.flatMap_cons, List.length_append, List.length_cons] at *
    omega

/-- v is a slice of rows of strings, a row of its own from base on. -/
def RowsAt (w : World) (base : Nat) (v : Value) (rs : List (List ByteArray)) : Prop :=
  ∃ L : List (Value × List ByteArray), L.map (·.2) = rs ∧ w.ownsRow base 40 1 v L.length (L.map (·.1)) ∧ ∀ q ∈ L, FAt w base q.1 q.2
theorem FAt.turnsT {D : Nat → Prop} {A B : World} {base : Nat} {v : Value} {fs : List ByteArray} (t : TypeId) (ht : t ≠ 9) (h : FAt A base v fs) (tt : Turns D A B) (hd : ∀ k, D k → k < base ∨ (∃ cur, A.heap[k]? = some (.cells cur t (0, 0)))) : FAt B base v fs := by
  obtain ⟨g, off, cap, cur, rfl, hg, hgg, hc⟩ := h
  refine ⟨g, off, cap, cur, rfl, hg, (tt.block g (Array.getElem?_eq_some_iff.1 hgg).1 (fun d => ?_)).trans hgg, hc⟩
  rcases hd g d with h | ⟨cur', h⟩
  · omega
  · rw [hgg] at h; cases h; exact ht rfl
theorem RowsAt.turns {D : Nat → Prop} {A B : World} {base : Nat} {v : Value} {rs : List (List ByteArray)} (h : RowsAt A base v rs) (t : Turns D A B) (hd : ∀ k, D k → k < base) : RowsAt B base v rs := by
  obtain ⟨L, hL, ho, hf⟩ := h
  exact ⟨L, hL, t.own ho (fun k e d => by have := (ho.lt k e).1; have := hd k d; omega), fun q hq => (hf q hq).turnsT 40 (by decide) t (fun k d => .inl (hd k d))⟩
theorem RowsAt.kept {A B : World} {base : Nat} {v : Value} {rs : List (List ByteArray)} (h : RowsAt A base v rs) (hb : Below A.heap.size A B) : RowsAt B base v rs := h.turns (D := fun _ => False) (.of_below hb) (fun _ h => h.elim)
theorem RowsAt.nil (w : World) (base : Nat) : RowsAt w base (.slice none 0 0) [] := ⟨[], rfl, World.ownsRow_nil _ _ _ _, fun _ h => by cases h⟩
theorem RowsAt.lower {w : World} {base base2 : Nat} {v : Value} {rs : List (List ByteArray)} (h : RowsAt w base2 v rs) (hb : base ≤ base2) : RowsAt w base v rs := by
  obtain ⟨L, hL, ho, hf⟩ := h
  exact ⟨L, hL, own_lower ho hb, fun q hq => (hf q hq).lower hb⟩
theorem RowsAt.push {A B : World} {base : Nat} {v v' : Value} {L : List (Value × List ByteArray)} {fv : Value} {fs : List ByteArray} (hf : ∀ q ∈ L, FAt A base q.1 q.2) (ho : A.ownsRow base 40 1 v L.length (L.map (·.1))) (hF : FAt A base fv fs) (hgrow : A.grownBy B v.ownBlock)
    (hown : B.ownsRow base 40 1 v' (L.length + 1) (L.map (·.1) ++ [fv])) : RowsAt B base v' (L.map (·.2) ++ [fs]) := by
  have t : Turns (fun k => ∃ cur, A.heap[k]? = some (.cells cur 40 (0, 0))) A B := .of_grown hgrow (own_typed ho)
  refine ⟨L ++ [(fv, fs)], by rw [List.map_append]; rfl, by rw [List.length_append, List.map_append]; exact hown, fun q hq => ?_⟩
  rcases List.mem_append.1 hq with hq | hq
  · exact (hf q hq).turnsT 40 (by decide) t (fun k d => .inr d)
  · obtain rfl := List.mem_singleton.1 hq
    exact hF.turnsT 40 (by decide) t (fun k d => .inr d)

theorem four (w : World) (A0 A1 A2 A3 : Obj) {W : World} (hW : W = (((w.alloc A0).alloc A1).alloc A2).alloc A3) :
    W.heap.size = w.heap.size + 4 ∧ Below w.heap.size w W ∧ W.heap[w.heap.size]? = some A0 ∧ W.heap[w.heap.size + 1]? = some A1 ∧ W.heap[w.heap.size + 2]? = some A2 ∧ W.heap[w.heap.size + 3]? = some A3 := by
  have old : ∀ (V : World) (o o' : Obj) (k : Nat), V.heap[k]? = some o → (V.alloc o').heap[k]? = some o := fun V o o' k h => (Below.heap_alloc V o' k (Array.getElem?_eq_some_iff.1 h).1).trans h
  have new : ∀ (V : World) (o : Obj) (k : Nat), V.heap.size = k → (V.alloc o).heap[k]? = some o := fun V o k h => by rw [← h]; exact World.alloc_heap_new V o
  subst hW
  refine ⟨by simp, ?_, ?_, ?_, ?_, ?_⟩
  · exact ((((Below.refl _ w).alloc (Nat.le_refl _) _).alloc (by simp) _).alloc (by simp; omega) _).alloc (by simp; omega) _
  · exact old _ _ _ _ (old _ _ _ _ (old _ _ _ _ (new _ _ _ rfl)))
  · exact old _ _ _ _ (old _ _ _ _ (new _ _ _ (by simp)))
  · exact old _ _ _ _ (new _ _ _ (by simp))
  · exact new _ _ _ (by simp)

end Go.Proofs.YtcmhkfiijdomiaaGreatDoor.lin
end
