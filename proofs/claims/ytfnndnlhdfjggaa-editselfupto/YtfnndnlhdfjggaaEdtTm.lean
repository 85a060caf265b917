/- A template's parts, as a plain function. -/
import Derived.Test.YtfnndnlhdfjggaaEdtMark
import Derived.Test.YtfnndnlhdfjggaaEdtGroup
import Derived.Test.YtfnndnlhdfjggaaEdtAdd
set_option linter.unusedVariables false
namespace Go.Proofs.Ytfnndnlhdfjggaa.edt

/-- What a template comes to: parts, or an error and its place. -/
inductive Rs where
  | ok (ps : List Pt)
  | no (code : Int) (at_ : Nat)
/-- From a place on. -/
def tm (l : List Int) (groups : Int) (T : List ByteArray) : Nat → Nat → List Pt → Rs
  | 0, _, acc => .ok acc
  | f + 1, a, acc =>
    if a < l.length then
      match mk (l.drop a) with
      | .bad => .no 220 a
      | .txt c s => tm l groups T f (a + s) (addT acc [c])
      | .num d s => if val d ≤ groups then tm l groups T f (a + s) (acc ++ [([], val d)]) else .no 151 a
      | .nam d s => if 0 ≤ sx (strOfNums d) (T.drop 1) then tm l groups T f (a + s) (acc ++ [([], sx (strOfNums d) (T.drop 1) + 1)]) else .no 151 a
    else .ok acc
def Mk.size : Mk → Nat
  | .bad => 1
  | .txt _ s => s
  | .num _ s => s
  | .nam _ s => s
theorem getD_out {l : List Int} {i : Nat} (h : l.length ≤ i) : l.getD i 0 = 0 := by rw [List.getD_eq_getElem?_getD, List.getElem?_eq_none h]; rfl
theorem getD_in {l : List Int} {i : Nat} (h : l.getD i 0 ≠ 0) : i < l.length := by
  rcases Nat.lt_or_ge i l.length with h1 | h1
  · exact h1
  · exact absurd (getD_out h1) h
theorem mk_size (l : List Int) (h0 : 0 < l.length) : 1 ≤ (mk l).size ∧ (mk l).size ≤ l.length := by
  unfold mk
  split
  · exact ⟨by simp [Mk.size], h0⟩
  split
  · rename_i h
    have := getD_in (l := l) (i := 1) (by rw [h]; decide)
    exact ⟨by simp [Mk.size], this⟩
  split
  · unfold mkB
    have h1 := ix_ge 125 l
    have h2 := ix_lt 125 l
    split
    · exact ⟨by simp [Mk.size], h0⟩
    split
    · simp only [Mk.size]; omega
    split
    · simp only [Mk.size]; omega
    · exact ⟨by simp [Mk.size], h0⟩
  split
  · rename_i h
    have h1 := getD_in (l := l) (i := 1) (fun e => by rw [e] at h; exact absurd h (by decide))
    split
    · rename_i h
      have h1 := getD_in (l := l) (i := 2) (fun e => by rw [e] at h; exact absurd h (by decide))
      simp only [Mk.size]; omega
    · simp only [Mk.size]; omega
  · exact ⟨by simp [Mk.size], h0⟩
theorem tm_step (l : List Int) (groups : Int) (T : List ByteArray) (f a : Nat) (acc : List Pt) (h : a < l.length) : tm l groups T (f + 1) a acc =
      match mk (l.drop a) with
      | .bad => .no 220 a
      | .txt c s => tm l groups T f (a + s) (addT acc [c])
      | .num d s => if val d ≤ groups then tm l groups T f (a + s) (acc ++ [([], val d)]) else .no 151 a
      | .nam d s => if 0 ≤ sx (strOfNums d) (T.drop 1) then tm l groups T f (a + s) (acc ++ [([], sx (strOfNums d) (T.drop 1) + 1)]) else .no 151 a := by
  rw [tm, if_pos h]
/-- Fuel enough is enough. -/
theorem tm_fuel (l : List Int) (groups : Int) (T : List ByteArray) : ∀ (f g a : Nat) (acc : List Pt), l.length - a < f → l.length - a < g → tm l groups T f a acc = tm l groups T g a acc
  | 0, _, _, _, h, _ => by omega
  | _, 0, _, _, _, h => by omega
  | f + 1, g + 1, a, acc, h1, h2 => by
    by_cases ha : a < l.length
    · rw [tm_step l groups T f a acc ha, tm_step l groups T g a acc ha]
      have hs := mk_size (l.drop a) (by rw [List.length_drop]; omega)
      cases e : mk (l.drop a) with
      | bad => rfl
      | txt c s => rw [e] at hs; simp only [Mk.size] at hs; exact tm_fuel l groups T f g _ _ (by omega) (by omega)
      | num d s =>
        rw [e] at hs; simp only [Mk.size] at hs
        simp only
        split
        · exact tm_fuel l groups T f g _ _ (by omega) (by omega)
        · rfl
      | nam d s =>
        rw [e] at hs; simp only [Mk.size] at hs
        simp only
        split
        · exact tm_fuel l groups T f g _ _ (by omega) (by omega)
        · rfl
    · rw [tm, tm, if_neg ha, if_neg ha]
theorem tm_next (l : List Int) (groups : Int) (T : List ByteArray) (a : Nat) (acc : List Pt) (h : a < l.length) : tm l groups T (l.length - a + 1) a acc =
      match mk (l.drop a) with
      | .bad => .no 220 a
      | .txt c s => tm l groups T (l.length - (a + s) + 1) (a + s) (addT acc [c])
      | .num d s => if val d ≤ groups then tm l groups T (l.length - (a + s) + 1) (a + s) (acc ++ [([], val d)]) else .no 151 a
      | .nam d s => if 0 ≤ sx (strOfNums d) (T.drop 1) then tm l groups T (l.length - (a + s) + 1) (a + s) (acc ++ [([], sx (strOfNums d) (T.drop 1) + 1)]) else .no 151 a := by
  rw [tm_step l groups T _ a acc h]
  have hs := mk_size (l.drop a) (by rw [List.length_drop]; omega)
  cases e : mk (l.drop a) with
  | bad => rfl
  | txt c s => rw [e] at hs; simp only [Mk.size] at hs; exact tm_fuel l groups T _ _ _ _ (by omega) (by omega)
  | num d s => rw [e] at hs; simp only [Mk.size] at hs; simp only; rw [tm_fuel l groups T _ (l.length - (a + s) + 1) _ _ (by omega) (by omega)]
  | nam d s => rw [e] at hs; simp only [Mk.size] at hs; simp only; rw [tm_fuel l groups T _ (l.length - (a + s) + 1) _ _ (by omega) (by omega)]
theorem tm_end (l : List Int) (groups : Int) (T : List ByteArray) (f a : Nat) (acc : List Pt) (h : l.length ≤ a) : tm l groups T f a acc = .ok acc := by
  cases f with
  | zero => rfl
  | succ f => rw [tm, if_neg (by omega)]
/-- How many parts there are, and how long their texts, at most. -/
def Few (k : Nat) (ps : List Pt) : Prop := ps.length ≤ k ∧ ∀ p ∈ ps, p.1.length ≤ k
theorem Few.mono {k m : Nat} {ps : List Pt} (h : Few k ps) (hm : k ≤ m) : Few m ps := ⟨Nat.le_trans h.1 hm, fun p hp => Nat.le_trans (h.2 p hp) hm⟩
theorem Few.snoc {k : Nat} {ps : List Pt} (h : Few k ps) (a : Int) : Few (k + 1) (ps ++ [([], a)]) := by
  refine ⟨by rw [List.length_append]; simpa using h.1, fun p hp => ?_⟩
  rcases List.mem_append.1 hp with hp | hp
  · exact Nat.le_succ_of_le (h.2 p hp)
  · obtain rfl : p = ([], a) := by simpa using hp
    simp
theorem Few.addT {k : Nat} {ps : List Pt} (h : Few k ps) (c : Int) : Few (k + 1) (addT ps [c]) := by
  rcases List.eq_nil_or_concat ps with rfl | ⟨l, q, rfl⟩
  · exact ⟨by simp [addT_nil], by intro p hp; simp [addT_nil] at hp; subst hp; simp⟩
  · obtain ⟨t, a⟩ := q
    rw [List.concat_eq_append] at *
    have h1 := h.1
    rw [List.length_append] at h1
    simp only [List.length_cons, List.length_nil] at h1
    rw [addT_snoc]
    split
    · refine ⟨by rw [List.length_append]; simp only [List.length_cons, List.length_nil]; omega, fun p hp => ?_⟩
      rcases List.mem_append.1 hp with hp | hp
      · exact Nat.le_succ_of_le (h.2 p (List.mem_append_left _ hp))
      · obtain rfl : p = (t ++ [c], -1) := by simpa using hp
        have := h.2 (t, a) (by simp)
        simp only at this
        simp; omega
    · refine ⟨by rw [List.length_append, List.length_append]; simp only [List.length_cons, List.length_nil]; omega, fun p hp => ?_⟩
      rcases List.mem_append.1 hp with hp | hp
      · exact Nat.le_succ_of_le (h.2 p hp)
      · obtain rfl : p = ([c], -1) := by simpa using hp
        simp
end Go.Proofs.Ytfnndnlhdfjggaa.edt
