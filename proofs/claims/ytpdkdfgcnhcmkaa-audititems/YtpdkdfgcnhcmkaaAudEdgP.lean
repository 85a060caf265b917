/- Edges of items, plain: each item ends where another one begins, or at the end; a row of bools that tells of each place whether it is an edge; whether a span, and matches, stand at edges. -/
import Derived.Test.YtpdkdfgcnhcmkaaAudOrd
import Derived.Test.YtpdkdfgcnhcmkaaUtfRef
set_option linter.unusedVariables false
set_option linter.unusedSimpArgs false
namespace Go.Proofs.Ytpdkdfgcnhcmkaa.aud
open Go.RowKit
open Go.Proofs.Ytpdkdfgcnhcmkaa.edt
open Go.Proofs.Ytpdkdfgcnhcmkaa.utf (items it it_end items_step items_end)

abbrev Im := Int × Nat × Nat
theorem it_ends (f : Nat → Int) (n : Nat) : ∀ m a, n - a = m → ∀ x ∈ items f n a, x.2.1 < n ∧ x.2.2 ≤ n ∧ (x.2.2 = n ∨ ∃ y ∈ items f n a, y.2.1 = x.2.2) := by
  intro m
  induction m using Nat.strongRecOn with
  | ind m ih =>
    intro a hm x hx
    rcases Nat.lt_or_ge a n with ha | ha
    · have e := it_end f n a ha
      rw [items_step f n a ha] at hx
      rcases List.mem_cons.1 hx with rfl | h
      · refine ⟨ha, by simp only []; omega, ?_⟩
        simp only []
        rcases Nat.lt_or_ge (it f n a).2.1 n with h | h
        · refine .inr ⟨((it f n (it f n a).2.1).1, (it f n a).2.1, (it f n (it f n a).2.1).2.1), ?_, rfl⟩
          rw [items_step f n a ha, items_step f n _ h]
          simp
        · exact .inl (by omega)
      · obtain ⟨h1, h2, h3⟩ := ih (n - (it f n a).2.1) (by omega) _ rfl x h
        refine ⟨h1, h2, ?_⟩
        rcases h3 with h3 | ⟨y, hy, h3⟩
        · exact .inl h3
        · exact .inr ⟨y, by rw [items_step f n a ha]; exact List.mem_cons_of_mem _ hy, h3⟩
    · rw [items_end f n a ha] at hx; simp at hx
theorem it_count (f : Nat → Int) (n : Nat) : ∀ m a, n - a = m → (items f n a).length ≤ n - a := by
  intro m
  induction m using Nat.strongRecOn with
  | ind m ih =>
    intro a hm
    rcases Nat.lt_or_ge a n with h | h
    · have e := it_end f n a h
      rw [items_step f n a h, List.length_cons]
      have := ih (n - (it f n a).2.1) (by omega) _ rfl
      omega
    · rw [items_end f n a h]; simp
theorem flat_get : ∀ (l : List Im) (i : Nat), i < l.length → (utf.flat l)[i * 3]? = some (.int .i64 (l.getD i (0, 0, 0)).1) ∧ (utf.flat l)[i * 3 + 1]? = some (.int .i64 ((l.getD i (0, 0, 0)).2.1 : Int)) ∧ (utf.flat l)[i * 3 + 2]? = some (.int .i64 ((l.getD i (0, 0, 0)).2.2 : Int))
  | [], i, h => by simp at h
  | x :: l, 0, h => by simp [utf.flat]
  | x :: l, i + 1, h => by
    have := flat_get l i (by simpa using h)
    rw [show x :: l = [x] ++ l from rfl, utf.flat_append, show utf.flat [x] = [.int .i64 x.1, .int .i64 x.2.1, .int .i64 x.2.2] from rfl]
    rw [show (i + 1) * 3 = i * 3 + 3 from by omega]
    simpa using this
/-- Whether a place is an edge of items. -/
def egB (L : List Im) (n : Nat) (p : Int) : Bool := decide (p = n) || L.any (fun x => decide ((x.2.1 : Int) = p))
/-- .. as a row of bools tells it, when so many items have been gone through. -/
def rowB (L : List Im) (n : Nat) (k : Nat) (p : Nat) : Bool := decide (p = n) || (L.take k).any (fun x => decide (x.2.1 = p) || decide (x.2.2 = p))
theorem rowB_all (f : Nat → Int) (n p : Nat) : rowB (items f n 0) n (items f n 0).length p = egB (items f n 0) n p := by
  have hE := it_ends f n _ 0 rfl
  unfold rowB egB
  rw [List.take_length, Bool.eq_iff_iff]
  simp only [Bool.or_eq_true, decide_eq_true_eq, List.any_eq_true]
  constructor
  · rintro (h | ⟨x, hx, h | h⟩)
    · exact .inl (by omega)
    · exact .inr ⟨x, hx, by omega⟩
    · rcases (hE x hx).2.2 with e | ⟨y, hy, e⟩
      · exact .inl (by omega)
      · exact .inr ⟨y, hy, by omega⟩
  · rintro (h | ⟨x, hx, h⟩)
    · exact .inl (by omega)
    · exact .inr ⟨x, hx, .inl (by omega)⟩
theorem egB_range (f : Nat → Int) (n : Nat) (p : Int) (h : egB (items f n 0) n p = true) : 0 ≤ p ∧ p ≤ n := by
  have hE := it_ends f n _ 0 rfl
  unfold egB at h
  simp only [Bool.or_eq_true, decide_eq_true_eq, List.any_eq_true] at h
  rcases h with h | ⟨x, hx, h⟩
  · omega
  · have := (hE x hx).1; omega
/-- The row's cells. -/
def cellsB (n : Nat) (h : Nat → Bool) : List Value := (List.range n).map fun p => .bool (h p)
theorem cellsB_len (n : Nat) (h : Nat → Bool) : (cellsB n h).length = n := by simp [cellsB]
theorem cellsB_get (n : Nat) (h : Nat → Bool) (p : Nat) (hp : p < n) : (cellsB n h)[p]? = some (.bool (h p)) := by
  unfold cellsB
  rw [List.getElem?_map, List.getElem?_range hp]; rfl
theorem cellsB_set (n : Nat) (h : Nat → Bool) (a : Nat) (ha : a < n) : (cellsB n h).set a (.bool true) = cellsB n (fun p => h p || decide (p = a)) := by
  apply List.ext_getElem?
  intro i
  rcases Nat.lt_or_ge i n with hi | hi
  · by_cases e : a = i
    · subst e
      rw [List.getElem?_set_self (by rw [cellsB_len]; exact ha), cellsB_get n _ a ha]
      simp
    · have h2 : decide (i = a) = false := decide_eq_false (fun h => e h.symm)
      rw [List.getElem?_set_ne e, cellsB_get n h i hi, cellsB_get n _ i hi]
      simp only [h2, Bool.or_false]
  · rw [List.getElem?_eq_none (by simpa [cellsB] using hi), List.getElem?_eq_none (by simpa [cellsB] using hi)]
theorem cellsB_congr (n : Nat) (h g : Nat → Bool) (e : ∀ p, p < n → h p = g p) : cellsB n h = cellsB n g := by
  unfold cellsB
  apply List.map_congr_left
  intro p hp
  rw [e p (List.mem_range.1 hp)]
theorem cellsB_false (n : Nat) : List.replicate n (Value.bool false) = cellsB n (fun _ => false) := by
  apply List.ext_getElem?
  intro i
  rcases Nat.lt_or_ge i n with hi | hi
  · rw [cellsB_get n _ i hi, List.getElem?_replicate, if_pos hi]
  · rw [List.getElem?_eq_none (by simpa using hi), List.getElem?_eq_none (by simpa [cellsB] using hi)]
theorem rowB_next (L : List Im) (n k p : Nat) (hk : k < L.length) : rowB L n (k + 1) p = ((rowB L n k p || decide (p = (L.getD k (0, 0, 0)).2.1)) || decide (p = (L.getD k (0, 0, 0)).2.2)) := by
  unfold rowB
  rw [List.take_succ_eq_append_getElem hk, List.any_append, List.getD_eq_getElem?_getD, List.getElem?_eq_getElem hk]
  simp only [List.any_cons, List.any_nil, Bool.or_false, Option.getD_some]
  rw [Bool.eq_iff_iff]
  simp only [Bool.or_eq_true, decide_eq_true_eq]
  constructor
  · rintro (h | h | h | h)
    · exact .inl (.inl (.inl h))
    · exact .inl (.inl (.inr h))
    · exact .inl (.inr h.symm)
    · exact .inr h.symm
  · rintro (((h | h) | h) | h)
    · exact .inl h
    · exact .inr (.inl h)
    · exact .inr (.inr (.inl h.symm))
    · exact .inr (.inr (.inr h.symm))
/-- Whether a span stands at edges, or is none. -/
def spB (L : List Im) (n : Nat) (s : Sp) : Bool := (decide (s.1 = -1) && decide (s.2 = -1)) || (decide (s.1 ≤ s.2) && egB L n s.1 && egB L n s.2)
/-- Whether all spans of matches do. -/
def edgB (L : List Im) (n : Nat) (l : List (List Sp)) : Bool := l.all fun m => m.all (spB L n)
theorem all_drop {α : Type} (l : List α) (d : α) (P : α → Bool) (k : Nat) (h : k < l.length) : (l.drop k).all P = (P (l.getD k d) && (l.drop (k + 1)).all P) := by
  rw [drop_cons l k d h, List.all_cons]
end Go.Proofs.Ytpdkdfgcnhcmkaa.aud
