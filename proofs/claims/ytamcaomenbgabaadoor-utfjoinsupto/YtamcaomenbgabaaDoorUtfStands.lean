/- The walk of UtfStands: the items of bytes stand one behind the other, from 0 to the end. -/
import Derived.Test.YtamcaomenbgabaaDoorUtfBytes
import Derived.Test.YtamcaomenbgabaaDoorUtfEqual
set_option linter.unusedVariables false
set_option linter.unusedSimpArgs false
namespace Go.Proofs.YtamcaomenbgabaaDoor.utf
open Go.RowKit

theorem items_pos (f : Nat → Int) (n : Nat) (h : 0 < n) : 0 < (items f n 0).length := by
  rw [items_step f n 0 h]; simp
theorem drop_step {f : Nat → Int} {n a k : Nat} {l : List (Int × Nat × Nat)} (h : l.drop k = items f n a) (hk : k < l.length) :
    a < n ∧ l.getD k (0, 0, 0) = ((it f n a).1, a, (it f n a).2.1) ∧ l.drop (k + 1) = items f n (it f n a).2.1 := by
  have ha : a < n := by
    rcases Nat.lt_or_ge a n with h1 | h1
    · exact h1
    · rw [items_end f n a h1] at h
      have := List.drop_eq_nil_iff.1 h
      omega
  rw [items_step f n a ha, List.drop_eq_getElem_cons hk] at h
  have h' := List.cons.inj h
  refine ⟨ha, ?_, h'.2⟩
  rw [List.getD_eq_getElem?_getD, List.getElem?_eq_getElem hk]
  exact h'.1
theorem drop_last {f : Nat → Int} {n a k : Nat} {l : List (Int × Nat × Nat)} (h : l.drop k = items f n a) (hk : l.length ≤ k) : n ≤ a := by
  rcases Nat.lt_or_ge a n with h1 | h1
  · rw [items_step f n a h1, List.drop_eq_nil_iff.2 hk] at h
    simp at h
  · exact h1

theorem IsI.below {w w' : World} {b n : Nat} {x y z : Nat → Int} (h : IsI w b n x y z) (hb : Below w.heap.size w w') : IsI w' b n x y z := by
  intro i hi
  obtain ⟨h1, h2, h3⟩ := h i hi
  exact ⟨(hb.cell (World.block_lt_of_cell? w _ h1)).trans h1, (hb.cell (World.block_lt_of_cell? w _ h2)).trans h2, (hb.cell (World.block_lt_of_cell? w _ h3)).trans h3⟩

/-- Decode of bytes that are not empty: the answer's form. -/
theorem decode_pos (ao : Option Addr) (n cap : Nat) (f : Nat → Int) (w : World) (hB : IsB w ao n f) (h0 : 0 < n) (hn : n * 24 ≤ 140737488355328) (hf : ∀ i, 0 ≤ f i ∧ f i ≤ 255) :
    Calls Tryd.prog 5 #[.slice ao n cap] w fun e w' => ∃ g c, e = .returned (.slice (some ⟨g, 0, none⟩) (items f n 0).length c) ∧ w'.ownsRow w.heap.size 26 3 (.slice (some ⟨g, 0, none⟩) (items f n 0).length c) (items f n 0).length (flat (items f n 0)) ∧ Below w.heap.size w w' := by
  refine (decode_any ao n cap f w hB hn hf).mono ?_
  rintro e w' ⟨v, rfl, hown, hb⟩
  have hp := items_pos f n h0
  rcases hown.2 with ⟨_, k⟩ | ⟨g, c, cur, rfl, rest⟩
  · omega
  · exact ⟨g, c, rfl, hown, hb⟩

theorem items_le (f : Nat → Int) (n : Nat) : ∀ m a, n - a = m → (items f n a).length ≤ n - a := by
  intro m
  induction m using Nat.strongRecOn with
  | ind m ih =>
    intro a hm
    rcases Nat.lt_or_ge a n with h | h
    · have e := it_end f n a h
      rw [items_step f n a h, List.length_cons]
      have := ih (n - (it f n a).2.1) (by omega) _ rfl
      omega
    · rw [items_end f n a h]; simp

end Go.Proofs.YtamcaomenbgabaaDoor.utf
