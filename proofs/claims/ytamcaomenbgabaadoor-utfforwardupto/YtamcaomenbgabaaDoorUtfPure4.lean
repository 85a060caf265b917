/- Plain mathematics: where reading on from a place near the end comes to the last item: at a byte that is no tail, and at the fourth of four tails. -/
import Derived.Test.YtamcaomenbgabaaDoorUtfPure
set_option linter.unusedVariables false
set_option linter.unusedSimpArgs false
namespace Go.Proofs.YtamcaomenbgabaaDoor.utf

def Tail (c : Int) : Prop := 128 ≤ c ∧ c ≤ 191

theorem run_tail (f : Nat → Int) (n : Nat) : ∀ k r e l h, 128 ≤ l → h ≤ 191 → ∀ j, e ≤ j → j < (run f n k r e l h).2.1 → Tail (f j) := by
  intro k
  induction k with
  | zero => intro r e l h _ _ j h1 h2; simp [run] at h2; omega
  | succ k ih =>
    intro r e l h hl hh j h1 h2
    unfold run at h2
    split at h2
    · rename_i c
      rcases Nat.eq_or_lt_of_le h1 with rfl | h3
      · exact ⟨by omega, by omega⟩
      · exact ih _ _ _ _ (by omega) (by omega) j h3 h2
    · simp at h2; omega
theorem it_tail (f : Nat → Int) (n a j : Nat) (h1 : a < j) (h2 : j < (it f n a).2.1) : Tail (f j) := by
  unfold it at h2
  split at h2
  · simp at h2; omega
  · exact run_tail f n _ _ _ _ _ (lo_le _).1 (hi_le _).2 j h1 h2
theorem it_of_tail (f : Nat → Int) (n a : Nat) (h : Tail (f a)) : (it f n a).2.1 = a + 1 := by
  obtain ⟨h1, h2⟩ := h
  have s : sz (f a) = 0 := by unfold sz; (repeat' split) <;> omega
  unfold it; rw [if_pos s]

theorem reach (f : Nat → Int) (n e : Nat) (he : e < n) (P : ∀ a, a < e → (it f n a).2.1 ≤ e) : ∀ m a, e - a = m → a ≤ e → ∃ pre, items f n a = pre ++ items f n e := by
  intro m
  induction m using Nat.strongRecOn with
  | ind m ih =>
    intro a hm hae
    rcases Nat.eq_or_lt_of_le hae with rfl | h
    · exact ⟨[], rfl⟩
    · have hE := it_end f n a (by omega)
      obtain ⟨pre, hp⟩ := ih (e - (it f n a).2.1) (by have := P a h; omega) _ rfl (P a h)
      exact ⟨((it f n a).1, a, (it f n a).2.1) :: pre, by rw [items_step f n a (by omega), hp]; rfl⟩

theorem last_append (pre l : List (Int × Nat × Nat)) (h : 0 < l.length) : (pre ++ l).getLast? = l.getLast? := by
  cases l with
  | nil => simp at h
  | cons x l => rw [List.getLast?_append, List.getLast?_eq_some_getLast (by simp)]; rfl
theorem items_len_pos (f : Nat → Int) (n a : Nat) (h : a < n) : 0 < (items f n a).length := by
  rw [items_step f n a h]; simp

/-- A place from which reading on ends with the last item. -/
def Edge (f : Nat → Int) (n e : Nat) : Prop := e < n ∧ (e = 0 ∨ ¬ Tail (f e) ∨ (n = e + 4 ∧ ∀ j, e ≤ j → j < n → Tail (f j)))

theorem edge_last (f : Nat → Int) (n e : Nat) (h : Edge f n e) : (items f n e).getLast? = (items f n 0).getLast? := by
  obtain ⟨he, h⟩ := h
  rcases h with rfl | h | ⟨h4, ht⟩
  · rfl
  · obtain ⟨pre, hp⟩ := reach f n e he (fun a ha => by
      rcases Nat.lt_or_ge e (it f n a).2.1 with h1 | h1
      · exact absurd (it_tail f n a e ha h1) h
      · exact h1) (e - 0) 0 rfl (Nat.zero_le _)
    rw [hp, last_append _ _ (items_len_pos f n e he)]
  · have P : ∀ a, a < n - 1 → (it f n a).2.1 ≤ n - 1 := by
      intro a ha
      have hE := it_end f n a (by omega)
      rcases Nat.lt_or_ge (n - 1) (it f n a).2.1 with h1 | h1
      · have := it_of_tail f n a (ht a (by omega) (by omega))
        omega
      · exact h1
    obtain ⟨p1, e1⟩ := reach f n (n - 1) (by omega) P _ 0 rfl (by omega)
    obtain ⟨p2, e2⟩ := reach f n (n - 1) (by omega) P _ e rfl (by omega)
    rw [e1, e2, last_append _ _ (items_len_pos f n (n - 1) (by omega)), last_append _ _ (items_len_pos f n (n - 1) (by omega))]

theorem last_go (f : Nat → Int) (n a : Nat) (h : a < n) (h2 : (it f n a).2.1 < n) : (items f n (it f n a).2.1).getLast? = (items f n a).getLast? := by
  rw [items_step f n a h]
  exact (last_append [_] _ (items_len_pos f n _ h2)).symm
theorem last_end (f : Nat → Int) (n a : Nat) (h : a < n) (h2 : ¬ (it f n a).2.1 < n) : (items f n a).getLast? = some ((it f n a).1, a, (it f n a).2.1) := by
  rw [items_step f n a h, items_end f n _ (by omega)]
  rfl
end Go.Proofs.YtamcaomenbgabaaDoor.utf
