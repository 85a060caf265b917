/- Texts that the proof leans on, one behind the other. -/
import Derived.Test.YtlgkfnecahgedaaGreatDoorBeUtf1

section
/- Plain mathematics: the items of two texts, one behind the other, are those of both, if the first one is well-formed. -/
set_option linter.unusedVariables false
set_option linter.unusedSimpArgs false
namespace Go.Proofs.YtlgkfnecahgedaaGreatDoor.utf

theorem run_ext (f g : Nat → Int) (n N : Nat) (hN : n ≤ N) (h : ∀ i, i < n → g i = f i) : ∀ k r e l u, (run f n k r e l u).2.2 = true → run g N k r e l u = run f n k r e l u := by
  intro k
  induction k with
  | zero => intro r e l u _; simp [run]
  | succ k ih =>
    intro r e l u hk
    by_cases c : e < n ∧ l ≤ f e ∧ f e ≤ u
    · have hg := h e c.1
      rw [run_go f n (k + 1) r e l u (by omega) c] at hk ⊢
      rw [run_go g N (k + 1) r e l u (by omega) (by rw [hg]; omega), hg]
      exact ih _ _ _ _ hk
    · rw [run_stop f n (k + 1) r e l u (by omega) c] at hk
      simp at hk
theorem it_ext (f g : Nat → Int) (n N a : Nat) (hN : n ≤ N) (ha : a < n) (h : ∀ i, i < n → g i = f i) (hk : (it f n a).2.2 = true) : it g N a = it f n a := by
  unfold it at hk ⊢
  rw [h a ha]
  split
  · rfl
  · rename_i hs
    rw [if_neg hs] at hk
    exact run_ext f g n N hN h _ _ _ _ _ hk

theorem items_ext (f g : Nat → Int) (n N : Nat) (hN : n ≤ N) (h : ∀ i, i < n → g i = f i) : ∀ m a, n - a = m → a ≤ n → valid f n a = true → items g N a = items f n a ++ items g N n := by
  intro m
  induction m using Nat.strongRecOn with
  | ind m ih =>
    intro a hm han hv
    rcases Nat.lt_or_ge a n with ha | ha
    · have e := it_end f n a ha
      rw [valid_step f n a ha, Bool.and_eq_true] at hv
      have hi := it_ext f g n N a hN ha h hv.1
      rw [items_step g N a (by omega), items_step f n a ha, hi]
      rw [ih (n - (it f n a).2.1) (by omega) _ rfl (by omega) hv.2]
      rfl
    · obtain rfl : a = n := by omega
      rw [items_end f a a (Nat.le_refl _)]
      rfl

/-- Items, so many bytes further on. -/
def shift (d : Nat) (l : List (Int × Nat × Nat)) : List (Int × Nat × Nat) := l.map fun x => (x.1, d + x.2.1, d + x.2.2)
theorem items_shift (f : Nat → Int) (n d : Nat) : ∀ m a, n - a = m → items f (d + n) (d + a) = shift d (items (fun i => f (d + i)) n a) := by
  intro m
  induction m using Nat.strongRecOn with
  | ind m ih =>
    intro a hm
    rcases Nat.lt_or_ge a n with ha | ha
    · have e := it_end f (d + n) (d + a) (by omega)
      have hs := it_shift f n d a
      rw [items_step f (d + n) (d + a) (by omega), items_step (fun i => f (d + i)) n a ha]
      have e1 : (it (fun i => f (d + i)) n a).1 = (it f (d + n) (d + a)).1 := by rw [hs]
      have e2 : d + (it (fun i => f (d + i)) n a).2.1 = (it f (d + n) (d + a)).2.1 := by rw [hs]; simp only []; omega
      have := ih (n - (it (fun i => f (d + i)) n a).2.1) (by omega) (it (fun i => f (d + i)) n a).2.1 rfl
      rw [e2] at this
      rw [this]
      simp only [shift, List.map_cons, e1, e2]
    · rw [items_end _ _ _ (by omega), items_end _ _ _ ha]
      rfl

/-- The bytes of two texts, one behind the other. -/
def both (fa fb : Nat → Int) (na : Nat) : Nat → Int := fun i => if i < na then fa i else fb (i - na)
theorem items_both (fa fb : Nat → Int) (na nb : Nat) (hv : valid fa na 0 = true) : items (both fa fb na) (na + nb) 0 = items fa na 0 ++ shift na (items fb nb 0) := by
  rw [items_ext fa (both fa fb na) na (na + nb) (by omega) (fun i hi => by simp [both, hi]) (na - 0) 0 rfl (Nat.zero_le _) hv]
  have := items_shift (both fa fb na) nb na (nb - 0) 0 rfl
  rw [Nat.add_zero] at this
  rw [this]
  rw [show (fun i => both fa fb na (na + i)) = fb from funext fun i => by unfold both; rw [if_neg (by omega), Nat.add_sub_cancel_left]]
theorem shift_take (d : Nat) (l : List (Int × Nat × Nat)) (k : Nat) (hk : k < l.length) : shift d (l.take (k + 1)) = shift d (l.take k) ++ [((l.getD k (0, 0, 0)).1, d + (l.getD k (0, 0, 0)).2.1, d + (l.getD k (0, 0, 0)).2.2)] := by
  rw [List.getD_eq_getElem?_getD, List.getElem?_eq_getElem hk]
  unfold shift
  rw [List.take_succ_eq_append_getElem hk, List.map_append]
  rfl
theorem items_bound (f : Nat → Int) (n : Nat) : ∀ m a, n - a = m → ∀ x ∈ items f n a, x.2.1 ≤ n ∧ x.2.2 ≤ n := by
  intro m
  induction m using Nat.strongRecOn with
  | ind m ih =>
    intro a hm x hx
    rcases Nat.lt_or_ge a n with ha | ha
    · have e := it_end f n a ha
      rw [items_step f n a ha] at hx
      rcases List.mem_cons.1 hx with rfl | h
      · simp only []; omega
      · exact ih (n - (it f n a).2.1) (by omega) _ rfl x h
    · rw [items_end f n a ha] at hx; simp at hx
theorem items_getD_bound (f : Nat → Int) (n k : Nat) : ((items f n 0).getD k (0, 0, 0)).2.1 ≤ n ∧ ((items f n 0).getD k (0, 0, 0)).2.2 ≤ n := by
  rcases Nat.lt_or_ge k (items f n 0).length with h | h
  · rw [List.getD_eq_getElem?_getD, List.getElem?_eq_getElem h]
    exact items_bound f n (n - 0) 0 rfl _ (List.getElem_mem h)
  · rw [List.getD_eq_getElem?_getD, List.getElem?_eq_none h]
    simp
end Go.Proofs.YtlgkfnecahgedaaGreatDoor.utf
end
