/- Rows of parts of a template in memory: a row of the call's own, its texts rows of the call's own, apart from one another. -/
import Derived.Test.YtfnndnlhdfjggaaEdtMem
set_option linter.unusedVariables false
set_option linter.unusedSimpArgs false
namespace Go.Proofs.Ytfnndnlhdfjggaa.edt
open Go.RowKit

abbrev Pt := List Int × Int
abbrev Qt := Value × Pt
def flatP (qs : List Qt) : List Value := qs.flatMap fun q => [q.1, .int .i64 q.2.2]
theorem flatP_append (l r : List Qt) : flatP (l ++ r) = flatP l ++ flatP r := by simp [flatP]
theorem flatP_one (q : Qt) : flatP [q] = [q.1, .int .i64 q.2.2] := by simp [flatP]
theorem flatP_length (l : List Qt) : (flatP l).length = l.length * 2 := by
  induction l with
  | nil => rfl
  | cons x l ih => rw [show x :: l = [x] ++ l from rfl, flatP_append, List.length_append, ih, flatP_one]; simp; omega
theorem flatP_get : ∀ (l : List Qt) (i : Nat) (q : Qt), l[i]? = some q → (flatP l)[i * 2]? = some q.1 ∧ (flatP l)[i * 2 + 1]? = some (.int .i64 q.2.2)
  | [], i, q, h => by simp at h
  | x :: l, 0, q, h => by simp at h; subst h; exact ⟨rfl, rfl⟩
  | x :: l, i + 1, q, h => by
    have := flatP_get l i q (by simpa using h)
    rw [show flatP (x :: l) = x.1 :: .int .i64 x.2.2 :: flatP l from rfl, show (i + 1) * 2 = i * 2 + 1 + 1 from by omega]
    simpa using this

structure PsAt (w : World) (B : Nat) (e : TypeId) (v : Value) (qs : List Qt) : Prop where
  row : w.ownsRow B e 2 v qs.length (flatP qs)
  txt : ∀ q ∈ qs, OB w B q.1 q.2.1
  ap : qs.Pairwise fun q r => ∀ g, q.1.ownBlock = some g → r.1.ownBlock ≠ some g
theorem PsAt.nil (w : World) (B : Nat) (e : TypeId) : PsAt w B e (.slice none 0 0) [] := ⟨World.ownsRow_nil _ _ _ _, fun q h => (by cases h), List.Pairwise.nil⟩
theorem PsAt.below {w w' : World} {B : Nat} {e : TypeId} {v : Value} {qs : List Qt} (h : PsAt w B e v qs) (hb : Below w.heap.size w w') : PsAt w' B e v qs :=
  ⟨own_below h.row hb, fun q hq => (h.txt q hq).below hb, h.ap⟩
theorem PsAt.alloc {w : World} {B : Nat} {e : TypeId} {v : Value} {qs : List Qt} (h : PsAt w B e v qs) (o : Obj) : PsAt (w.alloc o) B e v qs := h.below ((Below.refl _ _).alloc (Nat.le_refl _) o)
/-- A part more. -/
theorem PsAt.snoc {w w' : World} {B : Nat} {e : TypeId} {v v' : Value} {qs : List Qt} (h : PsAt w B e v qs) (he : e ≠ 5) (x : Value) (t : List Int) (a : Int)
    (hrow : w'.ownsRow B e 2 v' (qs.length + 1) (flatP qs ++ [x, .int .i64 a])) (hg : w.grownBy w' v.ownBlock) (hx : OB w' B x t) (hxa : ∀ q ∈ qs, ∀ g, q.1.ownBlock = some g → x.ownBlock ≠ some g) : PsAt w' B e v' (qs ++ [(x, t, a)]) := by
  refine ⟨?_, ?_, ?_⟩
  · rw [List.length_append, flatP_append, flatP_one]; exact hrow
  · intro q hq
    rcases List.mem_append.1 hq with hq | hq
    · exact World.ownsRow.kept (h.txt q hq) hg (own_apart (h.txt q hq) h.row (Ne.symm he))
    · obtain rfl : q = (x, t, a) := by simpa using hq
      exact hx
  · rw [List.pairwise_append]
    refine ⟨h.ap, List.pairwise_singleton _ _, fun q hq r hr => ?_⟩
    obtain rfl : r = (x, t, a) := by simpa using hr
    exact hxa q hq
theorem flatP_set (qs : List Qt) (x x' : Value) (t t' : List Int) (a : Int) : (flatP (qs ++ [(x, t, a)])).set (qs.length * 2) x' = flatP (qs ++ [(x', t', a)]) := by
  rw [flatP_append, flatP_append, flatP_one, flatP_one, List.set_append_right _ _ (by rw [flatP_length]; exact Nat.le_refl _), flatP_length, Nat.sub_self]
  rfl
/-- The last part's text is another one. -/
theorem PsAt.retext {w w1 : World} {B : Nat} {e : TypeId} {g cap m : Nat} {qs : List Qt} {x : Value} {t : List Int} {a : Int} (h : PsAt w B e (.slice (some ⟨g, 0, none⟩) (m + 1) cap) (qs ++ [(x, t, a)])) (he : e ≠ 5) (hm : qs.length = m) (x' : Value) (t' : List Int)
    (hx : OB w1 B x' t') (hg : w.grownBy w1 x.ownBlock) (hat : x'.ownBlock = x.ownBlock ∨ x'.ownBlock = some w.heap.size) : PsAt (w1.setCell ⟨g, m * 2, none⟩ x') B e (.slice (some ⟨g, 0, none⟩) (m + 1) cap) (qs ++ [(x', t', a)]) := by
  subst hm
  have hl : (qs ++ [(x, t, a)]).length = qs.length + 1 := by simp
  have hr := h.row
  rw [hl] at hr
  have tx : OB w B x t := h.txt (x, t, a) (by simp)
  have r1 : w1.ownsRow B e 2 (.slice (some ⟨g, 0, none⟩) (qs.length + 1) cap) (qs.length + 1) (flatP (qs ++ [(x, t, a)])) := World.ownsRow.kept hr hg (own_apart hr tx he)
  obtain ⟨r2, g2⟩ := r1.stored (qs.length * 2) x'
  rw [flatP_set qs x x' t t' a] at r2
  obtain ⟨ap1, _, ap2⟩ := List.pairwise_append.1 h.ap
  have far : ∀ {y : Value} {l : List Int}, OB w1 B y l → OB (w1.setCell ⟨g, qs.length * 2, none⟩ x') B y l := fun hy => World.ownsRow.kept hy g2 (own_apart hy r1 (Ne.symm he))
  refine ⟨by rw [List.length_append]; exact r2, ?_, ?_⟩
  · intro q hq
    rcases List.mem_append.1 hq with hq | hq
    · refine far (World.ownsRow.kept (h.txt q (List.mem_append_left _ hq)) hg ?_)
      cases hb : q.1.ownBlock with
      | none => exact .inl rfl
      | some k => exact .inr (fun e0 => ap2 q hq (x, t, a) (by simp) k hb e0.symm)
    · obtain rfl : q = (x', t', a) := by simpa using hq
      exact far hx
  · rw [List.pairwise_append]
    refine ⟨ap1, List.pairwise_singleton _ _, fun q hq r hr k hk => ?_⟩
    obtain rfl : r = (x', t', a) := by simpa using hr
    rcases hat with h1 | h1
    · show x'.ownBlock ≠ some k
      rw [h1]; exact ap2 q hq (x, t, a) (by simp) k hk
    · show x'.ownBlock ≠ some k
      rw [h1]
      intro e0
      have := (World.ownsRow.lt (h.txt q (List.mem_append_left _ hq)) k hk).2
      cases e0; omega
/-- Blocks of other types than parts and bytes are as they were. -/
def Fr (w w' : World) : Prop := ∀ (k : Nat) (cs : Array Value) (t : TypeId) (fz : Nat × Nat), w.heap[k]? = some (.cells cs t fz) → t ≠ 37 → t ≠ 5 → w'.heap[k]? = some (.cells cs t fz)
theorem Fr.refl (w : World) : Fr w w := fun _ _ _ _ h _ _ => h
theorem Fr.trans {a b c : World} (h : Fr a b) (k : Fr b c) : Fr a c := fun i cs t fz hi h1 h2 => k i cs t fz (h i cs t fz hi h1 h2) h1 h2
theorem Fr.alloc {a w : World} (h : Fr a w) (o : Obj) : Fr a (w.alloc o) := fun i cs t fz hi h1 h2 => by
  have := h i cs t fz hi h1 h2
  rw [Below.heap_alloc _ _ _ (Array.getElem?_eq_some_iff.1 this).1]; exact this
theorem Fr.grown {a w w' : World} (h : Fr a w) {B e s n : Nat} {v : Value} {xs : List Value} (hown : w.ownsRow B e s v n xs) (he : e = 37 ∨ e = 5) (hg : w.grownBy w' v.ownBlock) : Fr a w' := fun i cs t fz hi h1 h2 => by
  have k := h i cs t fz hi h1 h2
  refine (hg.block i (Array.getElem?_eq_some_iff.1 k).1 (fun e0 => ?_)).trans k
  rcases hown.2 with ⟨rfl, _⟩ | ⟨g, cap, cur, rfl, _, hgg, _⟩
  · cases e0
  · cases e0
    rw [show (⟨g, 0, none⟩ : Addr).block = g from rfl, hgg] at k
    injection k with k
    injection k with k1 k2
    rcases he with he | he
    · exact h1 (by rw [← k2, he])
    · exact h2 (by rw [← k2, he])
theorem Fr.of_below {w w' : World} (h : Below w.heap.size w w') : Fr w w' := fun i cs t fz hi _ _ => (h.block i (Array.getElem?_eq_some_iff.1 hi).1).trans hi
theorem infoPart : (Try.prog.info? 37).map (fun i => (i.zero, i.size, i.bytes)) = some (some (.agg #[.slice none 0 0, .int .i64 0]), 2, 32) := by kernel_rfl
theorem infoRPart : (Try.prog.info? 71).map (fun i => (i.zero, i.size, i.bytes)) = some (some (.agg #[.slice none 0 0, .int .i64 0]), 2, 32) := by kernel_rfl
end Go.Proofs.Ytfnndnlhdfjggaa.edt
