/- Texts that the proof leans on, one behind the other. -/
import Derived.Test.YtnjomfmdogkhgaaGreatDoorBnd8
import Derived.Test.YtnjomfmdogkhgaaGreatDoorBnd20

section
/- Sets of what is said: how many ranges they have. -/
set_option linter.unusedVariables false
set_option linter.unusedSimpArgs false
set_option linter.unusedSectionVars false
namespace Go.Proofs.YtnjomfmdogkhgaaGreatDoor.prp
open Go.Proofs.YtnjomfmdogkhgaaGreatDoor.rng (R has IsSet code CanF inP)

theorem len_le_of_sub : ∀ (l B : List Int), l.Nodup → (∀ x ∈ l, x ∈ B) → l.length ≤ B.length := by
  intro l
  induction l with
  | nil => intro B _ _; exact Nat.zero_le _
  | cons a t ih =>
    intro B hn hs
    have ha : a ∈ B := hs a (by simp)
    obtain ⟨hat, hn'⟩ := List.nodup_cons.1 hn
    have := ih (B.erase a) hn' (fun x hx => (List.mem_erase_of_ne (fun e => hat (by rw [← e]; exact hx))).2 (hs x (by simp [hx])))
    have h2 := List.length_erase_of_mem ha
    have h3 : 0 < B.length := List.length_pos_of_mem ha
    simp only [List.length_cons]
    omega
theorem can_lows : ∀ (r : List R) (m : Int), CanF m r → (∀ p ∈ r, m ≤ p.1) ∧ (r.map (·.1)).Nodup := by
  intro r
  induction r with
  | nil => intro m _; exact ⟨fun p hp => (by cases hp), List.nodup_nil⟩
  | cons q r ih =>
    intro m h
    obtain ⟨h1, h2, h3, h4⟩ := h
    obtain ⟨i1, i2⟩ := ih _ h4
    refine ⟨fun p hp => ?_, ?_⟩
    · rcases List.mem_cons.1 hp with rfl | hp
      · exact h1
      · have := i1 p hp; omega
    · rw [List.map_cons, List.nodup_cons]
      refine ⟨fun hm => ?_, i2⟩
      obtain ⟨p, hp, e⟩ := List.mem_map.1 hm
      have := i1 p hp
      omega
/-- The code point ahead of a range is in no range. -/
theorem can_ahead : ∀ (r : List R) (m : Int), 0 ≤ m → CanF m r → ∀ p ∈ r, has r p.1 = true ∧ has r (p.1 - 1) = false := by
  intro r
  induction r with
  | nil => intro m _ _ p hp; cases hp
  | cons q r ih =>
    intro m hm h p hp
    have hh := h
    obtain ⟨h1, h2, h3, h4⟩ := h
    have hlow : ∀ x, x < q.2 + 2 → has r x = false := fun x hx => by
      cases t : has r x
      · rfl
      · have := rng.can_lo h4 t; omega
    rw [rng.can_has hm hh, rng.can_has hm hh]
    rcases List.mem_cons.1 hp with rfl | hp
    · refine ⟨by rw [(rng.inP_iff p p.1).2 ⟨Int.le_refl _, h2⟩]; rfl, ?_⟩
      rw [hlow _ (by omega), Bool.or_false]
      cases t : inP p (p.1 - 1)
      · rfl
      · have := (rng.inP_iff _ _).1 t; omega
    · obtain ⟨i1, i2⟩ := ih _ (by omega) h4 p hp
      have hl := (can_lows r _ h4).1 p hp
      refine ⟨by rw [i1, Bool.or_true], ?_⟩
      rw [i2, Bool.or_false]
      cases t : inP q (p.1 - 1)
      · rfl
      · have := (rng.inP_iff _ _).1 t; omega
/-- A set that begins and ends at few places has few ranges. -/
theorem set_len {α : Type} [DecidableEq α] (F : Int → α) (c : α) (B : List Int) (r : List R) (hF : ∀ x, x ∉ B → F x = F (x - 1)) (h : IsSet r (fun x => decide (F x = c))) : r.length ≤ B.length + 1 := by
  have h1 := can_lows r 0 h.1
  have := len_le_of_sub (r.map (·.1)) (0 :: B) h1.2 (fun x hx => by
    obtain ⟨p, hp, rfl⟩ := List.mem_map.1 hx
    obtain ⟨h2, h3⟩ := can_ahead r 0 (Int.le_refl _) h.1 p hp
    by_cases hz : p.1 = 0
    · rw [hz]; simp
    · refine List.mem_cons_of_mem _ ?_
      by_cases hb : p.1 ∈ B
      · exact hb
      · exfalso
        have e := hF p.1 hb
        have c1 := rng.has_code h2
        have c2 : code (p.1 - 1) = true := by rw [rng.code_iff] at c1 ⊢; have := h1.1 p hp; omega
        have g2 := (h.2 _ c1).symm.trans h2
        have g3 := (h.2 _ c2).symm.trans h3
        simp only at g2 g3
        rw [← e, g2] at g3
        cases g3)
  simpa using this
section
variable {α : Type} [DecidableEq α]
def edgesOf (l : List (RA α)) : List Int := l.flatMap fun x => [x.1, x.2.1 + 1]
theorem lastV_edge (nn : α) (l : List (RA α)) (x : Int) (h : x ∉ edgesOf l) : lastV nn l x = lastV nn l (x - 1) := by
  unfold lastV
  induction l generalizing nn with
  | nil => rfl
  | cons a l ih =>
    unfold edgesOf at h
    rw [List.flatMap_cons, List.mem_append] at h
    have ha : x ≠ a.1 ∧ x ≠ a.2.1 + 1 := ⟨fun e => h (.inl (by simp [e])), fun e => h (.inl (by simp [e]))⟩
    rw [List.foldl_cons, List.foldl_cons]
    have e : (if a.1 ≤ x ∧ x ≤ a.2.1 then a.2.2 else nn) = (if a.1 ≤ x - 1 ∧ x - 1 ≤ a.2.1 then a.2.2 else nn) := by
      by_cases hh : a.1 ≤ x ∧ x ≤ a.2.1
      · rw [if_pos hh, if_pos (by omega)]
      · rw [if_neg hh, if_neg (by omega)]
    rw [e]
    exact ih _ (fun hm => h (.inr hm))
theorem edges_len (l : List (RA α)) : (edgesOf l).length = 2 * l.length := by
  induction l with
  | nil => rfl
  | cons a l ih => unfold edgesOf at *; rw [List.flatMap_cons, List.length_append, ih]; simp; omega
theorem lastV_set_len (nn c : α) (l : List (RA α)) (r : List R) (h : IsSet r (fun x => decide (lastV nn l x = c))) : r.length ≤ 2 * l.length + 1 := by
  have := set_len (lastV nn l) c (edgesOf l) r (fun x hx => lastV_edge nn l x hx) h
  rw [edges_len] at this
  exact this
end
end Go.Proofs.YtnjomfmdogkhgaaGreatDoor.prp
end
