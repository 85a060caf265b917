/- Texts that the proof leans on, one behind the other. -/
import Derived.Test.YtnjomfmdogkhgaaGreatDoorBnd14
import Derived.Test.YtnjomfmdogkhgaaGreatDoorBnd9
import Derived.Test.YtnjomfmdogkhgaaGreatDoorProg
import Derived.WalkKit
import Derived.WalkSpells
import Derived.WalkLawsBesides
import Derived.Outline
import Derived.Deep.QuietTactic
import Derived.BigQuiet

section
/- Tables: values and their places, and what is said of a code point. -/
set_option linter.unusedVariables false
set_option linter.unusedSimpArgs false
set_option linter.unusedSectionVars false
namespace Go.Proofs.YtnjomfmdogkhgaaGreatDoor.prp
open Go.Proofs.YtnjomfmdogkhgaaGreatDoor.nam (upd)
open Go.Proofs.YtnjomfmdogkhgaaGreatDoor.tri (E last use clip good)

section
variable {α : Type} [DecidableEq α]
abbrev RA (α : Type) := Int × Int × α
def tstep (acc : List α × List E) (x : RA α) : List α × List E :=
  if x.2.2 ∈ acc.1 then (acc.1, acc.2 ++ [(x.1, x.2.1, (acc.1.idxOf x.2.2 : Int))]) else (acc.1 ++ [x.2.2], acc.2 ++ [(x.1, x.2.1, (acc.1.length : Int))])
def tall (none : α) (l : List (RA α)) : List α × List E := l.foldl tstep ([none], [(0, 1114111, 0)])
def lastV (none : α) (l : List (RA α)) (r : Int) : α := l.foldl (fun a x => if x.1 ≤ r ∧ r ≤ x.2.1 then x.2.2 else a) none
theorem tall_snoc (none : α) (l : List (RA α)) (x : RA α) : tall none (l ++ [x]) = tstep (tall none l) x := by simp [tall]
theorem lastV_snoc (none : α) (l : List (RA α)) (x : RA α) (r : Int) : lastV none (l ++ [x]) r = if x.1 ≤ r ∧ r ≤ x.2.1 then x.2.2 else lastV none l r := by simp [lastV]

/-- Where a value stands, as the map says it. -/
def places (vals : List α) (v : α) : Option Value := if v ∈ vals then some (.int .i64 (vals.idxOf v : Int)) else none
/-- Where a value stands. -/
def idx (vals : List α) (v : α) : Int := (vals.idxOf v : Int)
theorem tstep_mem (acc : List α × List E) (x : RA α) (h : x.2.2 ∈ acc.1) : tstep acc x = (acc.1, acc.2 ++ [(x.1, x.2.1, idx acc.1 x.2.2)]) := by unfold tstep; rw [if_pos h]; rfl
theorem tstep_new (acc : List α × List E) (x : RA α) (h : x.2.2 ∉ acc.1) : tstep acc x = (acc.1 ++ [x.2.2], acc.2 ++ [(x.1, x.2.1, (acc.1.length : Int))]) := by unfold tstep; rw [if_neg h]
theorem places_mem (vals : List α) (v : α) (h : v ∈ vals) : places vals v = some (.int .i64 (idx vals v)) := by unfold places; rw [if_pos h]; rfl
theorem places_none (vals : List α) (v : α) (h : v ∉ vals) : places vals v = none := by unfold places; rw [if_neg h]
theorem places_new (vals : List α) (v : α) (h : v ∉ vals) : upd (places vals) v (.int .i64 (vals.length : Int)) = places (vals ++ [v]) := by
  funext y
  unfold upd places
  by_cases hy : y = v
  · subst hy
    rw [if_pos rfl, if_pos (by simp), List.idxOf_append, if_neg h]
    simp
  · rw [if_neg hy]
    by_cases hm : y ∈ vals
    · rw [if_pos hm, if_pos (by simp [hm]), List.idxOf_append, if_pos hm]
    · rw [if_neg hm, if_neg (by simp [hm, hy])]

structure TInv (none : α) (F : Int → α) (n : Nat) (acc : List α × List E) : Prop where
  head : acc.1[0]? = some none
  len : acc.1.length ≤ n
  ents : acc.2.length = n
  fit : ∀ e ∈ acc.2, 0 ≤ e.1 ∧ e.1 ≤ e.2.1 ∧ e.2.1 ≤ 1114111 ∧ 0 ≤ e.2.2 ∧ e.2.2 < acc.1.length
  tell : ∀ r, 0 ≤ r → r ≤ 1114111 → ∃ i : Nat, last acc.2 r = some (i : Int) ∧ acc.1[i]? = some (F r)
theorem last_one (e : E) (r : Int) : last [e] r = if e.1 ≤ r ∧ r ≤ e.2.1 then some e.2.2 else none := by
  simp [last]
theorem TInv.step {none : α} {F : Int → α} {n : Nat} {acc : List α × List E} (h : TInv none F n acc) (x : RA α) (hx : 0 ≤ x.1 ∧ x.1 ≤ x.2.1 ∧ x.2.1 ≤ 1114111) :
    TInv none (fun r => if x.1 ≤ r ∧ r ≤ x.2.1 then x.2.2 else F r) (n + 1) (tstep acc x) := by
  unfold tstep
  by_cases hm : x.2.2 ∈ acc.1
  · rw [if_pos hm]
    have hi := List.idxOf_lt_length_of_mem hm
    refine ⟨h.head, Nat.le_succ_of_le h.len, by simp [h.ents], fun e he => ?_, fun r h0 h1 => ?_⟩
    · rcases List.mem_append.1 he with he | he
      · exact h.fit e he
      · rw [List.mem_singleton.1 he]
        exact ⟨hx.1, hx.2.1, hx.2.2, by simp, by simp; exact hi⟩
    · simp only
      rw [tri.last_append, last_one]
      simp only
      by_cases hr : x.1 ≤ r ∧ r ≤ x.2.1
      · rw [if_pos hr, if_pos hr]
        exact ⟨_, rfl, by rw [List.getElem?_eq_getElem hi, List.getElem_idxOf]⟩
      · rw [if_neg hr, if_neg hr]
        exact h.tell r h0 h1
  · rw [if_neg hm]
    refine ⟨?_, by simp; exact h.len, by simp [h.ents], fun e he => ?_, fun r h0 h1 => ?_⟩
    · have : 0 < acc.1.length := (List.getElem?_eq_some_iff.1 h.head).1
      simp only
      rw [List.getElem?_append_left this]
      exact h.head
    · simp only [List.length_append, List.length_singleton]
      rcases List.mem_append.1 he with he | he
      · have := h.fit e he
        exact ⟨this.1, this.2.1, this.2.2.1, this.2.2.2.1, by omega⟩
      · rw [List.mem_singleton.1 he]
        exact ⟨hx.1, hx.2.1, hx.2.2, by simp, by simp; omega⟩
    · simp only
      rw [tri.last_append, last_one]
      simp only
      by_cases hr : x.1 ≤ r ∧ r ≤ x.2.1
      · rw [if_pos hr, if_pos hr]
        exact ⟨_, rfl, by rw [List.getElem?_append_right (Nat.le_refl _), Nat.sub_self]; rfl⟩
      · rw [if_neg hr, if_neg hr]
        obtain ⟨i, h2, h3⟩ := h.tell r h0 h1
        exact ⟨i, h2, by rw [List.getElem?_append_left (List.getElem?_eq_some_iff.1 h3).1]; exact h3⟩
theorem tall_none (none : α) : TInv none (lastV none []) 1 (tall none []) := by
  refine ⟨rfl, Nat.le_refl _, rfl, fun e he => ?_, fun r h0 h1 => ⟨0, ?_, rfl⟩⟩
  · rw [List.mem_singleton.1 he]; exact ⟨by decide, by decide, by decide, by decide, Int.zero_lt_one⟩
  · show last [(0, 1114111, 0)] r = _
    rw [last_one, if_pos ⟨h0, h1⟩]; rfl
theorem tall_take (none : α) (l : List (RA α)) (hl : ∀ x ∈ l, 0 ≤ x.1 ∧ x.1 ≤ x.2.1 ∧ x.2.1 ≤ 1114111) : ∀ k, k ≤ l.length → TInv none (lastV none (l.take k)) (k + 1) (tall none (l.take k)) := by
  intro k
  induction k with
  | zero => intro _; rw [List.take_zero]; exact tall_none none
  | succ k ih =>
    intro hk
    have h1 : l.take (k + 1) = l.take k ++ [l[k]] := by rw [List.take_add_one, List.getElem?_eq_getElem (by omega)]; rfl
    have := (ih (by omega)).step l[k] (hl _ (List.getElem_mem _))
    rw [h1, tall_snoc]
    have e : (fun r => if (l[k]).1 ≤ r ∧ r ≤ (l[k]).2.1 then (l[k]).2.2 else lastV none (l.take k) r) = lastV none (l.take k ++ [l[k]]) := by funext r; rw [lastV_snoc]
    rw [e] at this
    exact this
theorem tall_inv (none : α) (l : List (RA α)) (hl : ∀ x ∈ l, 0 ≤ x.1 ∧ x.1 ≤ x.2.1 ∧ x.2.1 ≤ 1114111) : TInv none (lastV none l) (l.length + 1) (tall none l) := by
  have := tall_take none l hl l.length (Nat.le_refl _)
  rwa [List.take_length] at this
/-- Entries that all play a part. -/
theorem use_same (n : Nat) (l : List E) (h : ∀ e ∈ l, 0 ≤ e.1 ∧ e.1 ≤ e.2.1 ∧ e.2.1 ≤ 1114111 ∧ 0 ≤ e.2.2 ∧ e.2.2 < n) : use (n : Int) l = l := by
  unfold use
  have h1 : l.map clip = l := by
    conv => rhs; rw [← List.map_id l]
    refine List.map_congr_left fun e he => ?_
    obtain ⟨a, b, c, _, _⟩ := h e he
    unfold clip
    show (max e.1 0, min e.2.1 1114111, e.2.2) = e
    rw [Int.max_eq_left a, Int.min_eq_left c]
  rw [h1, List.filter_eq_self]
  intro e he
  obtain ⟨a, b, c, d, f⟩ := h e he
  unfold good
  simp [b, d, f]
end
end Go.Proofs.YtnjomfmdogkhgaaGreatDoor.prp
end

section
/- Lists of ranges in memory: rows of the call's own, and rows that are read; slices.Equal and short. -/
set_option linter.unusedVariables false
set_option linter.unusedSimpArgs false
namespace Go.Proofs.YtnjomfmdogkhgaaGreatDoor.rng
open Go.RowKit

theorem ret_int {k : IntKind} {a b : Int} (h : a = b) : Ending.returned (.int k a) = .returned (.int k b) := by rw [h]
theorem ret_bool {a b : Bool} (h : a = b) : Ending.returned (.bool a) = .returned (.bool b) := by rw [h]
theorem below_drewN {B : Nat} {a w : World} (h : Below B a w) (q : Nat) : Below B a (w.drewN q) := ⟨h.os, h.tape, h.output, h.size, h.block⟩
theorem info_parts {P : Program} {t : TypeId} {z : Value} {s b : Nat} (h : (P.info? t).map (fun i => (i.zero, i.size, i.bytes)) = some (some z, s, b)) : ∃ i, P.info? t = some i ∧ i.zero = some z ∧ i.size = s ∧ i.bytes = b := by
  cases hi : P.info? t with
  | none => rw [hi] at h; cases h
  | some i => rw [hi] at h; simp at h; exact ⟨i, rfl, h.1, h.2.1, h.2.2⟩
theorem infoRange : (Tryz.prog.info? 40).map (fun i => (i.zero, i.size, i.bytes)) = some (some (.agg #[.int .i64 0, .int .i64 0]), 2, 16) := by kernel_rfl
theorem infoInt : (Tryz.prog.info? 3).map (fun i => (i.zero, i.size, i.bytes)) = some (some (.int .i64 0), 1, 8) := by kernel_rfl

/-- The cells of ranges. -/
def flat (l : List R) : List Value := l.flatMap fun p => [.int .i64 p.1, .int .i64 p.2]
theorem flat_cons (p : R) (l : List R) : flat (p :: l) = .int .i64 p.1 :: .int .i64 p.2 :: flat l := rfl
theorem flat_append (l r : List R) : flat (l ++ r) = flat l ++ flat r := by simp [flat]
theorem flat_length (l : List R) : (flat l).length = l.length * 2 := by
  induction l with
  | nil => rfl
  | cons x l ih => rw [flat_cons]; simp; omega
theorem flat_get : ∀ (l : List R) (i : Nat) (p : R), l[i]? = some p → (flat l)[i * 2]? = some (.int .i64 p.1) ∧ (flat l)[i * 2 + 1]? = some (.int .i64 p.2)
  | [], i, p, h => by simp at h
  | x :: l, 0, p, h => by simp at h; subst h; exact ⟨rfl, rfl⟩
  | x :: l, i + 1, p, h => by
    have := flat_get l i p (by simpa using h)
    rw [flat_cons, show (i + 1) * 2 = i * 2 + 1 + 1 from by omega]
    simpa using this
theorem flat_one (l : List R) : ∀ u ∈ flat l, u.oneCell' = true := by
  intro u hu
  unfold flat at hu
  obtain ⟨q, hq, hu⟩ := List.mem_flatMap.1 hu
  simp only [List.mem_cons, List.mem_nil_iff, or_false] at hu
  rcases hu with rfl | rfl <;> rfl

/-- v is a row of the call's own, of ranges l. -/
def Own (w : World) (base : Nat) (v : Value) (l : List R) : Prop := w.ownsRow base 40 2 v l.length (flat l)
theorem own_below' {w w' : World} {B e size n : Nat} {v : Value} {xs : List Value} (h : w.ownsRow B e size v n xs) (hb : Below w.heap.size w w') : w'.ownsRow B e size v n xs := by
  refine ⟨h.1, ?_⟩
  rcases h.2 with hn | ⟨g, cap, cur, rfl, hg, hgg, rest⟩
  · exact .inl hn
  · exact .inr ⟨g, cap, cur, rfl, hg, by rw [hb.block g (Array.getElem?_eq_some_iff.1 hgg).1]; exact hgg, rest⟩
theorem Own.below {w w' : World} {B : Nat} {v : Value} {l : List R} (h : Own w B v l) (hb : Below w.heap.size w w') : Own w' B v l := own_below' h hb
theorem Own.nil (w : World) (B : Nat) : Own w B (.slice none 0 0) [] := World.ownsRow_nil _ _ _ _

/-- The ranges l can be read from the address on. -/
def RV (w : World) (ao : Option Addr) (l : List R) : Prop :=
  l = [] ∨ ∃ b off, ao = some ⟨b, off, none⟩ ∧ ∀ i p, l[i]? = some p → w.cell? ⟨b, off + i * 2, none⟩ = some (.int .i64 p.1) ∧ w.cell? ⟨b, off + i * 2 + 1, none⟩ = some (.int .i64 p.2)
theorem RV.nil (w : World) (ao : Option Addr) : RV w ao [] := .inl rfl
theorem RV.below {w w' : World} {ao : Option Addr} {l : List R} (h : RV w ao l) (hb : Below w.heap.size w w') : RV w' ao l := by
  rcases h with h | ⟨b, off, rfl, h⟩
  · exact .inl h
  · exact .inr ⟨b, off, rfl, fun i p hi => by
      obtain ⟨h1, h2⟩ := h i p hi
      exact ⟨(hb.cell (World.block_lt_of_cell? w _ h1)).trans h1, (hb.cell (World.block_lt_of_cell? w _ h2)).trans h2⟩⟩
theorem RV.some {w : World} {ao : Option Addr} {l : List R} (h : RV w ao l) (h0 : 0 < l.length) : ∃ b off, ao = some ⟨b, off, none⟩ ∧ ∀ i p, l[i]? = Option.some p → w.cell? ⟨b, off + i * 2, none⟩ = Option.some (.int .i64 p.1) ∧ w.cell? ⟨b, off + i * 2 + 1, none⟩ = Option.some (.int .i64 p.2) := by
  rcases h with rfl | h
  · simp at h0
  · exact h
theorem RV.take {w : World} {ao : Option Addr} {l : List R} (h : RV w ao l) (n : Nat) : RV w ao (l.take n) := by
  rcases h with rfl | ⟨b, off, rfl, h⟩
  · exact .inl (by simp)
  · exact .inr ⟨b, off, rfl, fun i p hi => h i p (by rw [List.getElem?_take] at hi; split at hi; exact hi; cases hi)⟩
theorem Own.view {w : World} {B : Nat} {v : Value} {l : List R} (h : Own w B v l) : ∃ ao cap, v = .slice ao l.length cap ∧ RV w ao l ∧ l.length ≤ cap ∧ cap ≤ maxLen := by
  rcases h.2 with ⟨rfl, h0⟩ | ⟨g, cap, cur, rfl, hg, hgg, hc, hm, hs, ht⟩
  · exact ⟨none, 0, by rw [h0], .inl (List.eq_nil_of_length_eq_zero h0), by omega, by unfold maxLen; omega⟩
  · refine ⟨_, cap, rfl, .inr ⟨g, 0, rfl, fun i p hi => ?_⟩, hc, hm⟩
    obtain ⟨e1, e2⟩ := flat_get l i p hi
    have hil : i < l.length := (List.getElem?_eq_some_iff.1 hi).1
    have h' : w.ownsRow B 40 2 (.slice (some ⟨g, 0, none⟩) l.length cap) l.length (flat l) := h
    rw [Nat.zero_add]
    exact ⟨(h'.cellAt _ (by omega)).trans e1, (h'.cellAt _ (by omega)).trans e2⟩

end Go.Proofs.YtnjomfmdogkhgaaGreatDoor.rng
end

section
set_option maxRecDepth 1000000
/- Lists of entries in memory: rows of the call's own, and rows that are read; what a call may have changed of one row. -/
set_option linter.unusedVariables false
set_option linter.unusedSimpArgs false
namespace Go.Proofs.YtnjomfmdogkhgaaGreatDoor.tri
open Go.RowKit
open Go.Proofs.YtnjomfmdogkhgaaGreatDoor.rng (ret_int ret_bool below_drewN info_parts own_below')

theorem infoEntry : (Tryz.prog.info? 99).map (fun i => (i.zero, i.size, i.bytes)) = some (some (.agg #[.int .i64 0, .int .i64 0, .int .i64 0]), 3, 24) := by kernel_rfl

theorem getX {α : Type} {l : List α} {n k : Nat} (h : l.length = n) (hk : k < n) : ∃ x, l[k]? = some x := by subst h; exact ⟨_, List.getElem?_eq_getElem hk⟩
theorem get3 {l : List E} {n k : Nat} (h : l.length = n) (hk : k < n) : ∃ x y z, l[k]? = some (x, y, z) := by subst h; exact ⟨_, _, _, List.getElem?_eq_getElem hk⟩
theorem dropX {α : Type} {l : List α} {k : Nat} {x : α} (h : l[k]? = some x) : l.drop k = x :: l.drop (k + 1) := by
  obtain ⟨hk, e⟩ := List.getElem?_eq_some_iff.1 h
  rw [List.drop_eq_getElem_cons hk, e]
theorem takeX {α : Type} {l : List α} {k : Nat} {x : α} (h : l[k]? = some x) : l.take (k + 1) = l.take k ++ [x] := by
  obtain ⟨hk, e⟩ := List.getElem?_eq_some_iff.1 h
  rw [List.take_succ_eq_append_getElem hk, e]
theorem snocX {α : Type} {i j : List α} {p q : α} (h : i ++ [p] = j ++ [q]) : i = j ∧ p = q := by
  have := List.append_inj' h rfl; simpa using this

/-- The cells of entries. -/
def flat (l : List E) : List Value := l.flatMap fun p => [.int .i64 p.1, .int .i64 p.2.1, .int .i64 p.2.2]
theorem flat_cons (p : E) (l : List E) : flat (p :: l) = .int .i64 p.1 :: .int .i64 p.2.1 :: .int .i64 p.2.2 :: flat l := rfl
theorem flat_append (l r : List E) : flat (l ++ r) = flat l ++ flat r := by simp [flat]
theorem flat_three (x y z : Int) : flat [(x, y, z)] = [.int .i64 x, .int .i64 y, .int .i64 z] := rfl
theorem flat_length (l : List E) : (flat l).length = l.length * 3 := by
  induction l with
  | nil => rfl
  | cons x l ih => rw [flat_cons]; simp; omega
theorem flat_get : ∀ (l : List E) (i : Nat) (p : E), l[i]? = some p → (flat l)[i * 3]? = some (.int .i64 p.1) ∧ (flat l)[i * 3 + 1]? = some (.int .i64 p.2.1) ∧ (flat l)[i * 3 + 2]? = some (.int .i64 p.2.2)
  | [], i, p, h => by simp at h
  | x :: l, 0, p, h => by simp at h; subst h; exact ⟨rfl, rfl, rfl⟩
  | x :: l, i + 1, p, h => by
    have := flat_get l i p (by simpa using h)
    rw [flat_cons, show (i + 1) * 3 = i * 3 + 1 + 1 + 1 from by omega]
    simpa using this
theorem flat_back : ∀ (l : List E) (j : Nat) (u : Value), (flat l)[j]? = some u → ∃ p, l[j / 3]? = some p ∧ u = (if j % 3 = 0 then .int .i64 p.1 else if j % 3 = 1 then .int .i64 p.2.1 else .int .i64 p.2.2)
  | [], j, u, h => by simp [flat] at h
  | x :: l, 0, u, h => ⟨x, rfl, by rw [flat_cons] at h; simpa using h.symm⟩
  | x :: l, 1, u, h => ⟨x, rfl, by rw [flat_cons] at h; simpa using h.symm⟩
  | x :: l, 2, u, h => ⟨x, rfl, by rw [flat_cons] at h; simpa using h.symm⟩
  | x :: l, j + 3, u, h => by
    rw [flat_cons] at h
    obtain ⟨p, h1, h2⟩ := flat_back l j u (by simpa using h)
    refine ⟨p, ?_, ?_⟩
    · rw [show (j + 3) / 3 = j / 3 + 1 by omega]; simpa using h1
    · rw [show (j + 3) % 3 = j % 3 by omega]; exact h2
theorem flat_one (l : List E) : ∀ u ∈ flat l, u.oneCell' = true := by
  intro u hu
  unfold flat at hu
  obtain ⟨q, hq, hu⟩ := List.mem_flatMap.1 hu
  simp only [List.mem_cons, List.mem_nil_iff, or_false] at hu
  rcases hu with rfl | rfl | rfl <;> rfl

/-- The entries l lie in block b from cell off on. -/
def EAt (w : World) (b off : Nat) (l : List E) : Prop := ∀ i p, l[i]? = some p → w.cell? ⟨b, off + i * 3, none⟩ = some (.int .i64 p.1) ∧ w.cell? ⟨b, off + i * 3 + 1, none⟩ = some (.int .i64 p.2.1) ∧ w.cell? ⟨b, off + i * 3 + 2, none⟩ = some (.int .i64 p.2.2)
/-- The entries l can be read from the address on. -/
def EV (w : World) (ao : Option Addr) (l : List E) : Prop := l = [] ∨ ∃ b off, ao = some ⟨b, off, none⟩ ∧ EAt w b off l
theorem EAt.below {w w' : World} {b off : Nat} {l : List E} (h : EAt w b off l) (hb : Below w.heap.size w w') : EAt w' b off l := fun i p hi => by
  obtain ⟨h1, h2, h3⟩ := h i p hi
  exact ⟨(hb.cell (World.block_lt_of_cell? w _ h1)).trans h1, (hb.cell (World.block_lt_of_cell? w _ h2)).trans h2, (hb.cell (World.block_lt_of_cell? w _ h3)).trans h3⟩
theorem EAt.drop {w : World} {b off : Nat} {l : List E} (h : EAt w b off l) (k : Nat) : EAt w b (off + k * 3) (l.drop k) := fun i p hi => by
  rw [List.getElem?_drop] at hi
  have := h (k + i) p hi
  rw [show off + (k + i) * 3 = off + k * 3 + i * 3 by omega] at this
  exact this
theorem EAt.take {w : World} {b off : Nat} {l : List E} (h : EAt w b off l) (k : Nat) : EAt w b off (l.take k) := fun i p hi => h i p (by rw [List.getElem?_take] at hi; split at hi; exact hi; cases hi)
theorem EAt.news {w : World} {b off : Nat} {l : List E} (h : EAt w b off l) : ∀ (j : Nat) u, (flat l)[j]? = some u → w.cell? ((⟨b, off, none⟩ : Addr).add j) = some u := fun j u hj => by
  obtain ⟨p, h1, h2⟩ := flat_back l j u hj
  obtain ⟨c1, c2, c3⟩ := h _ p h1
  rw [Addr.add_lit]
  rcases (show j % 3 = 0 ∨ j % 3 = 1 ∨ j % 3 = 2 by omega) with h | h | h
  · rw [h] at h2; rw [h2, show off + j = off + j / 3 * 3 by omega]; exact c1
  · rw [h] at h2; rw [h2, show off + j = off + j / 3 * 3 + 1 by omega]; exact c2
  · rw [h] at h2; rw [h2, show off + j = off + j / 3 * 3 + 2 by omega]; exact c3
theorem EV.nil (w : World) (ao : Option Addr) : EV w ao [] := .inl rfl
theorem EV.below {w w' : World} {ao : Option Addr} {l : List E} (h : EV w ao l) (hb : Below w.heap.size w w') : EV w' ao l := by
  rcases h with h | ⟨b, off, rfl, h⟩
  · exact .inl h
  · exact .inr ⟨b, off, rfl, h.below hb⟩
theorem EV.some {w : World} {ao : Option Addr} {l : List E} (h : EV w ao l) (h0 : 0 < l.length) : ∃ b off, ao = some ⟨b, off, none⟩ ∧ EAt w b off l := by
  rcases h with rfl | h
  · simp at h0
  · exact h
theorem EV.take {w : World} {ao : Option Addr} {l : List E} (h : EV w ao l) (n : Nat) : EV w ao (l.take n) := by
  rcases h with rfl | ⟨b, off, rfl, h⟩
  · exact .inl (by simp)
  · exact .inr ⟨b, off, rfl, h.take n⟩
theorem ev_nil {w : World} {l : List E} (h : EV w none l) : l = [] := by
  rcases h with h | ⟨b, off, h, _⟩
  · exact h
  · cases h
theorem ev_news {w : World} {x : Addr} {l : List E} (h : EV w (some x) l) : ∀ (j : Nat) u, (flat l)[j]? = Option.some u → w.cell? (x.add j) = Option.some u := by
  rcases h with rfl | ⟨b, off, e, h⟩
  · intro j u hj; simp [flat] at hj
  · cases e; exact h.news

/-- v is a row of the call's own, of entries l. -/
def Own (w : World) (base : Nat) (v : Value) (l : List E) : Prop := w.ownsRow base 99 3 v l.length (flat l)
theorem Own.below {w w' : World} {B : Nat} {v : Value} {l : List E} (h : Own w B v l) (hb : Below w.heap.size w w') : Own w' B v l := own_below' h hb
theorem Own.view {w : World} {B : Nat} {v : Value} {l : List E} (h : Own w B v l) : ∃ ao cap, v = .slice ao l.length cap ∧ EV w ao l ∧ l.length ≤ cap ∧ cap ≤ maxLen ∧ (ao = none → cap = 0) := by
  rcases h.2 with ⟨rfl, h0⟩ | ⟨g, cap, cur, rfl, hg, hgg, hc, hm, hs, ht⟩
  · exact ⟨none, 0, by rw [h0], .inl (List.eq_nil_of_length_eq_zero h0), by omega, by unfold maxLen; omega, fun _ => rfl⟩
  · refine ⟨_, cap, rfl, .inr ⟨g, 0, rfl, fun i p hi => ?_⟩, hc, hm, fun e => by cases e⟩
    obtain ⟨e1, e2, e3⟩ := flat_get l i p hi
    have hil : i < l.length := (List.getElem?_eq_some_iff.1 hi).1
    have h' : w.ownsRow B 99 3 (.slice (some ⟨g, 0, none⟩) l.length cap) l.length (flat l) := h
    rw [Nat.zero_add]
    exact ⟨(h'.cellAt _ (by omega)).trans e1, (h'.cellAt _ (by omega)).trans e2, (h'.cellAt _ (by omega)).trans e3⟩
theorem Own.at {w : World} {B g c n : Nat} {l : List E} (h : Own w B (.slice (some ⟨g, 0, none⟩) n c) l) : EAt w g 0 l ∧ B ≤ g ∧ g < w.heap.size ∧ ∀ i, w.frozen? ⟨g, i, none⟩ = false := by
  rcases h.2 with ⟨h0, _⟩ | ⟨g', cap', cur, hv, hg, hgg, hc, hm, hs, ht⟩
  · cases h0
  cases hv
  have h' : w.ownsRow B 99 3 (.slice (some ⟨g, 0, none⟩) l.length c) l.length (flat l) := h
  refine ⟨fun i p hi => ?_, hg, (Array.getElem?_eq_some_iff.1 hgg).1, fun i => h'.frozenAt i⟩
  obtain ⟨e1, e2, e3⟩ := flat_get l i p hi
  have hil : i < l.length := (List.getElem?_eq_some_iff.1 hi).1
  rw [Nat.zero_add]
  exact ⟨(h'.cellAt _ (by omega)).trans e1, (h'.cellAt _ (by omega)).trans e2, (h'.cellAt _ (by omega)).trans e3⟩

/-- From w to w' only cells lo to hi of block g, and new blocks, have changed. -/
structure Mut (w w' : World) (g lo hi : Nat) : Prop where
  os : w'.os = w.os
  tape : w'.tape = w.tape
  output : w'.output = w.output
  size : w.heap.size ≤ w'.heap.size
  block : ∀ k, k < w.heap.size → k ≠ g → w'.heap[k]? = w.heap[k]?
  cell : ∀ i, i < lo ∨ hi ≤ i → w'.cell? ⟨g, i, none⟩ = w.cell? ⟨g, i, none⟩
  frozen : ∀ i, w'.frozen? ⟨g, i, none⟩ = w.frozen? ⟨g, i, none⟩
theorem Mut.refl (w : World) (g lo hi : Nat) : Mut w w g lo hi := ⟨rfl, rfl, rfl, Nat.le_refl _, fun _ _ _ => rfl, fun _ _ => rfl, fun _ => rfl⟩
theorem Mut.trans {a b c : World} {g lo hi : Nat} (h : Mut a b g lo hi) (k : Mut b c g lo hi) : Mut a c g lo hi :=
  ⟨k.os.trans h.os, k.tape.trans h.tape, k.output.trans h.output, Nat.le_trans h.size k.size, fun i hi hg => (k.block i (Nat.lt_of_lt_of_le hi h.size) hg).trans (h.block i hi hg), fun i hi => (k.cell i hi).trans (h.cell i hi), fun i => (k.frozen i).trans (h.frozen i)⟩
theorem Mut.wide {a b : World} {g lo hi lo' hi' : Nat} (h : Mut a b g lo hi) (h1 : lo' ≤ lo) (h2 : hi ≤ hi') : Mut a b g lo' hi' :=
  ⟨h.os, h.tape, h.output, h.size, h.block, fun i hi => h.cell i (by omega), h.frozen⟩
theorem Mut.of_below {w w' : World} {g lo hi : Nat} (h : Below w.heap.size w w') (hg : g < w.heap.size) : Mut w w' g lo hi :=
  ⟨h.os, h.tape, h.output, h.size, fun k hk _ => h.block k hk, fun i _ => World.cell?_of_block (h.block g hg), fun i => World.frozen?_of_block (h.block g hg)⟩
theorem Mut.then {a b c : World} {g lo hi : Nat} (h : Mut a b g lo hi) (hg : g < a.heap.size) (k : Below a.heap.size b c) : Mut a c g lo hi :=
  ⟨k.os.trans h.os, k.tape.trans h.tape, k.output.trans h.output, Nat.le_trans h.size k.size, fun i hi hg => (k.block i hi).trans (h.block i hi hg), fun i hi => (World.cell?_of_block (k.block g hg)).trans (h.cell i hi), fun i => (World.frozen?_of_block (k.block g hg)).trans (h.frozen i)⟩
theorem Mut.alloc {a b : World} {g lo hi : Nat} (h : Mut a b g lo hi) (hg : g < a.heap.size) (o : Obj) : Mut a (b.alloc o) g lo hi :=
  h.then hg ((Below.refl _ _).alloc h.size o)
theorem Mut.drew {a b : World} {g lo hi : Nat} (h : Mut a b g lo hi) : Mut a b.drew g lo hi := ⟨h.os, h.tape, h.output, h.size, h.block, h.cell, h.frozen⟩
theorem Mut.drewN {a b : World} {g lo hi : Nat} (h : Mut a b g lo hi) (q : Nat) : Mut a (b.drewN q) g lo hi := ⟨h.os, h.tape, h.output, h.size, h.block, h.cell, h.frozen⟩
theorem Mut.grown {a b c : World} {g lo hi : Nat} {row : Option Nat} (h : Mut a b g lo hi) (hg : g < a.heap.size) (k : b.grownBy c row) (hr : ∀ j, row = some j → a.heap.size ≤ j) : Mut a c g lo hi :=
  h.then hg ((Below.refl _ b).grown k h.size hr)
theorem cell_set_ne (w : World) (b i j : Nat) (u : Value) (h : i ≠ j) : (w.setCell ⟨b, i, none⟩ u).cell? ⟨b, j, none⟩ = w.cell? ⟨b, j, none⟩ := by
  simp only [World.cell?, World.setCell, Array.getElem?_modify, if_true]
  cases hb : w.heap[b]? with
  | none => simp
  | some o =>
    cases o with
    | cells c t f => simp [Array.getElem?_setIfInBounds, h]
    | _ => simp
theorem frozen_set (w : World) (b i j : Nat) (u : Value) : (w.setCell ⟨b, i, none⟩ u).frozen? ⟨b, j, none⟩ = w.frozen? ⟨b, j, none⟩ := by
  simp only [World.frozen?, World.setCell, Array.getElem?_modify, if_true]
  cases hb : w.heap[b]? with
  | none => simp
  | some o =>
    cases o with
    | cells c t f => simp
    | _ => simp
theorem cell_set_eq (w : World) (b i : Nat) (u v : Value) (h : w.cell? ⟨b, i, none⟩ = some v) : (w.setCell ⟨b, i, none⟩ u).cell? ⟨b, i, none⟩ = some u := by
  simp only [World.cell?, World.setCell, Array.getElem?_modify, if_true] at *
  cases hb : w.heap[b]? with
  | none => rw [hb] at h; cases h
  | some o =>
    rw [hb] at h
    cases o with
    | cells c t f =>
      simp at h ⊢
      obtain ⟨h1, _⟩ := Array.getElem?_eq_some_iff.1 h
      rw [Array.getElem?_setIfInBounds, if_pos rfl, if_pos h1]
    | _ => simp at h
theorem Mut.setCell {a b : World} {g lo hi i : Nat} (h : Mut a b g lo hi) (h1 : lo ≤ i) (h2 : i < hi) (u : Value) : Mut a (b.setCell ⟨g, i, none⟩ u) g lo hi :=
  h.trans ⟨rfl, rfl, rfl, by simp [World.setCell], fun k _ hk => Below.heap_setCell _ _ _ _ hk, fun j hj => cell_set_ne _ _ _ _ _ (by omega), fun j => frozen_set _ _ _ _ _⟩
theorem Mut.below {w w' : World} {g lo hi B : Nat} (h : Mut w w' g lo hi) (hB : B ≤ w.heap.size) (hg : B ≤ g) : Below B w w' :=
  ⟨h.os, h.tape, h.output, h.size, fun k hk => h.block k (by omega) (by omega)⟩
/-- Entries elsewhere stay. -/
theorem EAt.mut {w w' : World} {g lo hi b off : Nat} {l : List E} (h : EAt w b off l) (m : Mut w w' g lo hi) (hd : b ≠ g ∨ off + l.length * 3 ≤ lo ∨ hi ≤ off) : EAt w' b off l := fun i p hp => by
  obtain ⟨h1, h2, h3⟩ := h i p hp
  have hil : i < l.length := (List.getElem?_eq_some_iff.1 hp).1
  have lt : b < w.heap.size := World.block_lt_of_cell? w _ h1
  by_cases e : b = g
  · subst e
    refine ⟨(m.cell _ (by omega)).trans h1, (m.cell _ (by omega)).trans h2, (m.cell _ (by omega)).trans h3⟩
  · have hb := m.block b lt e
    exact ⟨(World.cell?_of_block (a := ⟨b, _, none⟩) hb).trans h1, (World.cell?_of_block (a := ⟨b, _, none⟩) hb).trans h2, (World.cell?_of_block (a := ⟨b, _, none⟩) hb).trans h3⟩
theorem frozen_mut {w w' : World} {g lo hi b : Nat} (m : Mut w w' g lo hi) (hb : b < w.heap.size) (h : ∀ i, w.frozen? ⟨b, i, none⟩ = false) : ∀ i, w'.frozen? ⟨b, i, none⟩ = false := fun i => by
  by_cases e : b = g
  · subst e; rw [m.frozen i]; exact h i
  · rw [World.frozen?_of_block (a := ⟨b, i, none⟩) (m.block b hb e)]; exact h i
/-- The first entry's Lo is set. -/
theorem EAt.setLo {w : World} {b off : Nat} {x y z x' : Int} {l : List E} (h : EAt w b off ((x, y, z) :: l)) : EAt (w.setCell ⟨b, off, none⟩ (.int .i64 x')) b off ((x', y, z) :: l) := fun i p hp => by
  match i, hp with
  | 0, hp =>
    obtain ⟨h1, h2, h3⟩ := h 0 (x, y, z) rfl
    simp at hp; subst hp
    simp only [Nat.zero_mul, Nat.add_zero] at *
    exact ⟨cell_set_eq _ _ _ _ _ h1, (cell_set_ne _ _ _ _ _ (by omega)).trans h2, (cell_set_ne _ _ _ _ _ (by omega)).trans h3⟩
  | i + 1, hp =>
    obtain ⟨h1, h2, h3⟩ := h (i + 1) p (by simpa using hp)
    exact ⟨(cell_set_ne _ _ _ _ _ (by omega)).trans h1, (cell_set_ne _ _ _ _ _ (by omega)).trans h2, (cell_set_ne _ _ _ _ _ (by omega)).trans h3⟩

theorem one_new (w : World) (x y z : Value) (t : TypeId) : ∀ (j : Nat) (u : Value), [x, y, z][j]? = some u → (w.alloc (Obj.cells #[x, y, z] t)).cell? ((⟨w.heap.size, 0, none⟩ : Addr).add j) = some u := by
  intro j u hj
  match j, hj with
  | 0, hj => simp at hj; subst hj; simp [Addr.add]
  | 1, hj => simp at hj; subst hj; simp [Addr.add]
  | 2, hj => simp at hj; subst hj; simp [Addr.add]
  | k + 3, hj => simp at hj
theorem two_new (w : World) (o : Obj) (x y z : Value) (t : TypeId) : ∀ (j : Nat) (u : Value), [x, y, z][j]? = some u → ((w.alloc o).alloc (Obj.cells #[x, y, z] t)).cell? ((⟨w.heap.size + 1, 0, none⟩ : Addr).add j) = some u := by
  have := one_new (w.alloc o) x y z t
  simpa using this
end Go.Proofs.YtnjomfmdogkhgaaGreatDoor.tri
end

section
set_option maxRecDepth 1000000
/- What trie.usable and the document's Entries answer: the entries that play a part; what the document's Get answers: the last one's value. -/
set_option linter.unusedVariables false
set_option linter.unusedSimpArgs false
namespace Go.Proofs.YtnjomfmdogkhgaaGreatDoor.tri
open Go.RowKit
open Go.Proofs.YtnjomfmdogkhgaaGreatDoor.rng (ret_int ret_bool below_drewN info_parts own_below')

theorem good_iff (n : Int) (x y z : Int) : good n (clip (x, y, z)) = true ↔ max x 0 ≤ min y 1114111 ∧ 0 ≤ z ∧ z < n := by
  unfold good
  rw [Bool.and_eq_true, Bool.and_eq_true]
  exact ⟨fun h => ⟨of_decide_eq_true h.1.1, of_decide_eq_true h.1.2, of_decide_eq_true h.2⟩, fun h => ⟨⟨decide_eq_true h.1, decide_eq_true h.2.1⟩, decide_eq_true h.2.2⟩⟩

set_option maxHeartbeats 1000000 in
theorem use_any (ao : Option Addr) (cap : Nat) (l : List E) (nv : Int) (w : World) (hn : l.length ≤ 1000000) (hv : EV w ao l) :
    Calls Tryz.prog 102 #[.slice ao l.length cap, .int .i64 nv] w fun e w' => ∃ g c, e = .returned (.slice (some ⟨g, 0, none⟩) (use nv l).length c) ∧ Own w' w.heap.size (.slice (some ⟨g, 0, none⟩) (use nv l).length c) (use nv l) ∧ Below w.heap.size w w' := by
  obtain ⟨i0, hi, hz0, hz1, hz2⟩ := info_parts infoEntry
  have HV : Hid (EV w ao l) := hv
  obtain ⟨n, hl⟩ : ∃ n, l.length = n := ⟨_, rfl⟩
  rw [hl] at hn ⊢
  have HL : Hid (l.length = n) := hl
  clear hv hl
  obtain ⟨w1, hmk, hown1, hg1⟩ := run_make_own (P := Tryz.prog) w w.heap.size 100 99 i0 _ 3 Tryz.underlying100 hi hz0 hz1 .i64 .i64 n (by rw [hz2]; omega) (by unfold maxLen; omega) (Nat.le_refl _)
  have hb1 := (Below.refl w.heap.size w).grown hg1 (Nat.le_refl _) (fun k e => by cases e)
  have HO1 : Hid (w1.ownsRow w.heap.size 99 3 (.slice (some ⟨w.heap.size, 0, none⟩) 0 n) 0 []) := hown1
  clear hown1 hg1
  go_enter Tryz.func102, Tryz.ntmps102
  go_wp2
  go_loopw [5, 13] (fun v i wr => ∃ (k : Nat) (s : List E), k ≤ n ∧ i = .int .i64 k ∧ s.length ≤ k ∧ Hid (s = use nv (l.take k)) ∧ Hid (∃ g c, v = .slice (some ⟨g, 0, none⟩) s.length c) ∧ wr.ownsRow w.heap.size 99 3 v s.length (flat s) ∧ Below w.heap.size w wr) (fun _ i _ => n - (intOf i).toNat)
  case atStart => exact ⟨0, [], Nat.zero_le _, rfl, Nat.le_refl _, rfl, ⟨_, _, rfl⟩, HO1, hb1⟩
  case round =>
    obtain ⟨k, s, hk, rfl, hsk, HS, HF, hown, hbel⟩ := hrel
    clear hmk HO1 hb1
    have hs1 := hbel.size
    by_cases hlt : k < n
    · obtain ⟨x, y, z, hp⟩ := get3 HL.out hlt
      obtain ⟨b, off, rfl, hc⟩ := (HV.out.below hbel).some (by have := HL.out; omega)
      obtain ⟨c1, c2, c3⟩ := hc k (x, y, z) hp
      simp only at c1 c2 c3
      obtain ⟨p, hpx⟩ : ∃ p : Int, (if x < 0 then (0 : Int) else x) = p := ⟨_, rfl⟩
      obtain ⟨q, hqy⟩ : ∃ q : Int, (if 1114111 < y then (1114111 : Int) else y) = q := ⟨_, rfl⟩
      have hpm : max x 0 = p := by rw [← hpx]; split <;> omega
      have hqm : min y 1114111 = q := by rw [← hqy]; split <;> omega
      have HN : Hid (use nv (l.take (k + 1)) = use nv (l.take k) ++ (if good nv (clip (x, y, z)) = true then [(p, q, z)] else [])) := by
        unfold Hid; rw [takeX hp, use_snoc, ← hpm, ← hqm]; rfl
      have HG : Hid (good nv (clip (x, y, z)) = true ↔ p ≤ q ∧ 0 ≤ z ∧ z < nv) := by unfold Hid; rw [good_iff, hpm, hqm]
      clear hc hp hpm hqm
      have R1 := hown.alloc (.cells #[.int .i64 p, .int .i64 q, .int .i64 z] 99)
      have R2 := hbel.alloc hs1 (.cells #[.int .i64 p, .int .i64 q, .int .i64 z] 99)
      have no : good nv (clip (x, y, z)) ≠ true → Hid (s = use nv (l.take (k + 1))) := fun h => by
        unfold Hid; rw [HN.out, if_neg h, List.append_nil, ← HS.out]
      have HNO : Hid (good nv (clip (x, y, z)) ≠ true → Hid (s = use nv (l.take (k + 1)))) := no
      clear no
      by_cases t1 : p ≤ q
      · by_cases t2 : 0 ≤ z
        · by_cases t3 : z < nv
          · have HE : Hid (s ++ [(p, q, z)] = use nv (l.take (k + 1))) := by
              unfold Hid; rw [HN.out, if_pos (HG.out.2 ⟨t1, t2, t3⟩), ← HS.out]
            have HW : Hid (∀ j, u5.ownBlock = some j → w.heap.size ≤ j) := fun j e => (hown.lt _ e).1
            clear HN HS HNO R1 R2
            go_wp2_with (at_builtin; refine wpList_append_own _ rfl _ _ 100 rfl w.heap.size 99 i0 (.agg #[.int .i64 0, .int .i64 0, .int .i64 0]) 3 24 Tryz.underlying100 hi hz0 hz1 hz2 rfl (by decide) _ _ _ rfl ((hown.alloc _).alloc _) ⟨wr.heap.size + 1, 0, none⟩ 1 1 [.int .i64 p, .int .i64 q, .int .i64 z] rfl rfl ?c1 ?c2 ?c3 ?c4 ?c5 ?_)
            case c1 => exact two_new wr _ _ _ _ _
            case c2 => intro u hu; simp at hu; rcases hu with rfl | rfl | rfl <;> rfl
            case c3 => unfold maxLen; omega
            case c4 => omega
            case c5 => simp; omega
            · intro v' w2 hown2 hgrow _
              have R2 := Below.grown ((hbel.alloc hs1 (.cells #[.int .i64 p, .int .i64 q, .int .i64 z] 99)).alloc (by simp; omega) (.cells #[.int .i64 p, .int .i64 q, .int .i64 z] 99)) hgrow (by simp; omega) HW.out
              have R1 : w2.ownsRow w.heap.size 99 3 v' (s ++ [(p, q, z)]).length (flat (s ++ [(p, q, z)])) := by
                rw [flat_append, flat_three, List.length_append]; exact hown2
              have R3 : Hid (∃ g c, v' = .slice (some ⟨g, 0, none⟩) (s ++ [(p, q, z)]).length c) := by
                rcases R1.2 with ⟨_, h0⟩ | ⟨g, c, _, e, _⟩
                · simp at h0
                · exact ⟨g, c, e⟩
              clear hown2 hgrow hown hbel
              go_wp2
              go_roundw
              case rel => exact ⟨k + 1, s ++ [(p, q, z)], by omega, by go_num, by simp; omega, HE, R3, R1, R2⟩
              case measure => simp [intOf]; omega
          · have HE : Hid (s = use nv (l.take (k + 1))) := HNO.out (fun h => t3 (HG.out.1 h).2.2)
            clear HN HS HNO
            go_wp2
            go_roundw
            case rel => exact ⟨k + 1, s, by omega, by go_num, by omega, HE, HF, R1, R2⟩
            case measure => simp [intOf]; omega
        · have HE : Hid (s = use nv (l.take (k + 1))) := HNO.out (fun h => t2 (HG.out.1 h).2.1)
          clear HN HS HNO
          go_wp2
          go_roundw
          case rel => exact ⟨k + 1, s, by omega, by go_num, by omega, HE, HF, R1, R2⟩
          case measure => simp [intOf]; omega
      · have HE : Hid (s = use nv (l.take (k + 1))) := HNO.out (fun h => t1 (HG.out.1 h).1)
        clear HN HS HNO
        go_wp2
        go_roundw
        case rel => exact ⟨k + 1, s, by omega, by go_num, by omega, HE, HF, R1, R2⟩
        case measure => simp [intOf]; omega
    · have HU : Hid (s = use nv l) := by
        unfold Hid; rw [HS.out, List.take_of_length_le (by have := HL.out; omega)]
      obtain ⟨g, c, rfl⟩ := HF.out
      have HO : Hid (wr.ownsRow w.heap.size 99 3 (.slice (some ⟨g, 0, none⟩) s.length c) s.length (flat s)) := hown
      clear HS HF hown
      have HB : Hid (Below w.heap.size w wr) := hbel
      generalize hm : s.length = m at *
      have HM : Hid (s.length = m) := hm
      clear hm hbel
      go_wp2
      go_ret
      have e : (use nv l).length = m := by rw [← HU.out, HM.out]
      rw [e]
      exact ⟨g, c, rfl, by unfold Own; rw [e, ← HU.out]; exact HO.out, HB.out⟩

/-- The place that the document's Get tells. -/
def place (o : Option Int) : Int := o.getD (-1)
theorem last_take {l : List E} {k : Nat} {e : E} (h : l[k]? = some e) (x : Int) : last (l.take (k + 1)) x = if e.1 ≤ x ∧ x ≤ e.2.1 then some e.2.2 else last (l.take k) x := by
  rw [takeX h, last_append, last, last]
  by_cases c : e.1 ≤ x ∧ x ≤ e.2.1
  · rw [if_pos c, if_pos c]; rfl
  · rw [if_neg c, if_neg c]; rfl
end Go.Proofs.YtnjomfmdogkhgaaGreatDoor.tri
end
