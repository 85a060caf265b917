/- Plain mathematics of the document's sorted edges: an insertion into a rising list, each number once, where two lists of ranges may change (no program). -/
import Derived.Test.YtjbcapnpknbbaaaGreatBndRngPure
set_option linter.unusedVariables false
set_option linter.unusedSimpArgs false
namespace Go.Proofs.YtjbcapnpknbbaaaGreat.rng

/-- The list with place a of P opened for h. -/
def hole (P : List Int) (a : Nat) (h : Int) (S : List Int) : List Int := P.take a ++ h :: (P.drop a ++ S)
theorem hole_length (P : List Int) (a : Nat) (h : Int) (S : List Int) : (hole P a h S).length = P.length + 1 + S.length := by
  unfold hole; simp only [List.length_append, List.length_take, List.length_cons, List.length_drop]; omega
theorem hole_put {P : List Int} {a : Nat} {h x : Int} {S : List Int} (ha : a ≤ P.length) : (hole P a h S).set a x = hole P a x S := by
  unfold hole
  rw [List.set_append, if_neg (by rw [List.length_take]; omega), List.length_take, show a - min a P.length = 0 by omega]; rfl
theorem hole_step {P : List Int} {a : Nat} {h y : Int} {S : List Int} (hy : P[a]? = some y) : (hole P (a + 1) h S).set (a + 1) y = hole P a y S := by
  obtain ⟨ha, e⟩ := List.getElem?_eq_some_iff.1 hy
  rw [hole_put (by omega)]
  unfold hole
  rw [List.take_succ_eq_append_getElem ha, List.drop_eq_getElem_cons ha, e]; simp
theorem hole_get {P : List Int} {a j : Nat} {h : Int} {S : List Int} (hj : j < a) (ha : a ≤ P.length) : (hole P a h S)[j]? = P[j]? := by
  unfold hole
  rw [List.getElem?_append_left (by rw [List.length_take]; omega), List.getElem?_take, if_pos hj]
theorem hole_start {L : List Int} {i : Nat} {x : Int} (h : L[i]? = some x) : L = hole (L.take i) i x (L.drop (i + 1)) := by
  obtain ⟨hi, e⟩ := List.getElem?_eq_some_iff.1 h
  unfold hole
  rw [List.take_take, Nat.min_self, List.drop_of_length_le (by rw [List.length_take]; omega), List.nil_append, ← e, ← List.drop_eq_getElem_cons hi, List.take_append_drop]
theorem hole_perm (P : List Int) (a : Nat) (x : Int) (S : List Int) : (hole P a x S).Perm (P ++ x :: S) := by
  unfold hole
  have h1 : (P.take a ++ x :: (P.drop a ++ S)).Perm (x :: (P.take a ++ (P.drop a ++ S))) := List.perm_middle
  have h2 : (P ++ x :: S).Perm (x :: (P ++ S)) := List.perm_middle
  refine h1.trans (.trans ?_ h2.symm)
  rw [← List.append_assoc, List.take_append_drop]
theorem hole_sorted {P : List Int} {a : Nat} {x : Int} {S : List Int} (hP : P.Pairwise (· ≤ ·)) (h1 : ∀ y ∈ P.take a, y ≤ x) (h2 : ∀ y ∈ P.drop a, x < y) : ((hole P a x S).take (P.length + 1)).Pairwise (· ≤ ·) := by
  have e : (hole P a x S).take (P.length + 1) = P.take a ++ x :: P.drop a := by
    unfold hole
    rw [show P.take a ++ x :: (P.drop a ++ S) = (P.take a ++ x :: P.drop a) ++ S by simp]
    rw [List.take_append_of_le_length (by simp only [List.length_append, List.length_take, List.length_cons, List.length_drop]; omega)]
    exact List.take_of_length_le (by simp only [List.length_append, List.length_take, List.length_cons, List.length_drop]; omega)
  rw [e, List.pairwise_append]
  have hP' : (P.take a ++ P.drop a).Pairwise (· ≤ ·) := by rw [List.take_append_drop]; exact hP
  obtain ⟨p1, p2, p3⟩ := List.pairwise_append.1 hP'
  refine ⟨p1, List.pairwise_cons.2 ⟨fun y hy => by have := h2 y hy; omega, p2⟩, fun y hy z hz => ?_⟩
  rcases List.mem_cons.1 hz with rfl | hz
  · exact h1 y hy
  · exact p3 y hy z hz
theorem sorted_take {P : List Int} {a : Nat} {x y : Int} (hP : P.Pairwise (· ≤ ·)) (hy : P[a]? = some y) (h : y ≤ x) : ∀ z ∈ P.take (a + 1), z ≤ x := by
  obtain ⟨ha, e⟩ := List.getElem?_eq_some_iff.1 hy
  intro z hz
  rw [List.take_succ_eq_append_getElem ha, e] at hz
  have hP' : (P.take a ++ P.drop a).Pairwise (· ≤ ·) := by rw [List.take_append_drop]; exact hP
  obtain ⟨p1, p2, p3⟩ := List.pairwise_append.1 hP'
  rcases List.mem_append.1 hz with hz | hz
  · have := p3 z hz y (by rw [List.drop_eq_getElem_cons ha, e]; simp); omega
  · obtain rfl := List.mem_singleton.1 hz; exact h

/-- How the numbers are told once: L rising; out: those of the first k. -/
structure DdInv (L out : List Int) (k : Nat) : Prop where
  mem : ∀ y, y ∈ out ↔ y ∈ L.take k
  lt : out.Pairwise (· < ·)
  len : out.length ≤ k
theorem take_snocI {l : List Int} {k : Nat} {x : Int} (h : l[k]? = some x) : l.take (k + 1) = l.take k ++ [x] := by
  obtain ⟨hk, e⟩ := List.getElem?_eq_some_iff.1 h
  rw [List.take_succ_eq_append_getElem hk, e]
theorem DdInv.start (L : List Int) : DdInv L [] 0 := ⟨fun y => by simp, List.Pairwise.nil, Nat.le_refl _⟩
theorem DdInv.new {L out : List Int} {k : Nat} {x : Int} (h : DdInv L out k) (hL : L.Pairwise (· ≤ ·)) (hx : L[k]? = some x) (hd : k = 0 ∨ ∃ z, L[k - 1]? = some z ∧ z ≠ x) : DdInv L (out ++ [x]) (k + 1) := by
  refine ⟨fun y => by rw [take_snocI hx, List.mem_append, List.mem_append, h.mem], List.pairwise_append.2 ⟨h.lt, List.pairwise_singleton _ _, fun y hy z hz => ?_⟩, by rw [List.length_append]; have := h.len; simp; omega⟩
  obtain rfl := List.mem_singleton.1 hz
  have hy' := (h.mem y).1 hy
  rcases hd with rfl | ⟨q, hq, hne⟩
  · simp at hy'
  · have hk0 : 0 < k := by
      rcases Nat.eq_zero_or_pos k with h0 | h0
      · subst h0; simp at hy'
      · exact h0
    have hL' : (L.take k ++ L.drop k).Pairwise (· ≤ ·) := by rw [List.take_append_drop]; exact hL
    obtain ⟨p1, p2, p3⟩ := List.pairwise_append.1 hL'
    obtain ⟨hk, e⟩ := List.getElem?_eq_some_iff.1 hx
    have hzd : z ∈ L.drop k := by rw [List.drop_eq_getElem_cons hk, e]; simp
    have hqm : q ∈ L.take k := by
      obtain ⟨hq1, hq2⟩ := List.getElem?_eq_some_iff.1 hq
      have : (L.take k)[k - 1]? = some q := by rw [List.getElem?_take, if_pos (by omega)]; exact hq
      exact List.mem_of_getElem? this
    have hqz := p3 q hqm z hzd
    have hyq : y ≤ q := by
      have := sorted_take (a := k - 1) (x := q) hL hq (Int.le_refl _) y
      rw [show k - 1 + 1 = k by omega] at this
      exact this hy'
    omega
theorem DdInv.same {L out : List Int} {k : Nat} {x : Int} (h : DdInv L out k) (hx : L[k]? = some x) (hk : 0 < k) (hp : L[k - 1]? = some x) : DdInv L out (k + 1) := by
  refine ⟨fun y => ?_, h.lt, by have := h.len; omega⟩
  rw [take_snocI hx, List.mem_append, h.mem, List.mem_singleton]
  refine ⟨Or.inl, ?_⟩
  rintro (hy | rfl)
  · exact hy
  · have : (L.take k)[k - 1]? = some y := by rw [List.getElem?_take, if_pos (by omega)]; exact hp
    exact List.mem_of_getElem? this

/-- What is known of the numbers at which the ranges of l may change. -/
structure Marks (l : List R) (M : List Int) : Prop where
  rng : ∀ y ∈ M, 0 ≤ y ∧ y ≤ 1114111
  zero : (0 : Int) ∈ M
  lo : ∀ p ∈ l, 0 < p.1 → p.1 ≤ 1114111 → p.1 ∈ M
  hi : ∀ p ∈ l, 0 ≤ p.2 → p.2 < 1114111 → p.2 + 1 ∈ M
theorem Marks.start : Marks [] [0] := ⟨fun y hy => by simp at hy; omega, by simp, fun p hp => (by cases hp), fun p hp => (by cases hp)⟩
theorem Marks.step {l : List R} {M : List Int} {x y : Int} (h : Marks l M) : Marks (l ++ [(x, y)]) (M ++ (if 0 < x ∧ x ≤ 1114111 then [x] else []) ++ (if 0 ≤ y ∧ y < 1114111 then [y + 1] else [])) := by
  refine ⟨fun z hz => ?_, by simp [h.zero], fun p hp h1 h2 => ?_, fun p hp h1 h2 => ?_⟩
  · rcases List.mem_append.1 hz with hz | hz
    · rcases List.mem_append.1 hz with hz | hz
      · exact h.rng z hz
      · split at hz
        · obtain rfl := List.mem_singleton.1 hz; omega
        · cases hz
    · split at hz
      · obtain rfl := List.mem_singleton.1 hz; omega
      · cases hz
  · rcases List.mem_append.1 hp with hp | hp
    · simp [h.lo p hp h1 h2]
    · obtain rfl := List.mem_singleton.1 hp
      simp only at h1 h2
      simp [h1, h2]
  · rcases List.mem_append.1 hp with hp | hp
    · simp [h.hi p hp h1 h2]
    · obtain rfl := List.mem_singleton.1 hp
      simp only at h1 h2
      simp [h1, h2]
theorem Marks.of_mem {l : List R} {M N : List Int} (h : Marks l M) (e : ∀ y, y ∈ N ↔ y ∈ M) : Marks l N :=
  ⟨fun y hy => h.rng y ((e y).1 hy), (e 0).2 h.zero, fun p hp h1 h2 => (e _).2 (h.lo p hp h1 h2), fun p hp h1 h2 => (e _).2 (h.hi p hp h1 h2)⟩
/-- The place number k; behind all, that behind all code points. -/
def cur (E : List Int) (k : Nat) : Int := E.getD k 1114112
theorem cur_get {E : List Int} {k : Nat} {x : Int} (h : E[k]? = some x) : cur E k = x := by unfold cur; rw [List.getD_eq_getElem?_getD, h]; rfl
theorem cur_end {E : List Int} {k : Nat} (h : E.length ≤ k) : cur E k = 1114112 := by unfold cur; rw [List.getD_eq_getElem?_getD, List.getElem?_eq_none h]; rfl
theorem Marks.cur_zero {l : List R} {E : List Int} (h : Marks l E) (hE : E.Pairwise (· < ·)) : cur E 0 = 0 := by
  cases E with
  | nil => have := h.zero; cases this
  | cons e E =>
    have h0 := h.zero
    rcases List.mem_cons.1 h0 with h1 | h1
    · show e = 0; omega
    · have := (List.pairwise_cons.1 hE).1 0 h1
      have := (h.rng e (by simp)).1
      omega
theorem Marks.next {l : List R} {E : List Int} (h : Marks l E) (hE : E.Pairwise (· < ·)) {k : Nat} {x : Int} (hk : E[k]? = some x) : x < cur E (k + 1) ∧ cur E (k + 1) ≤ 1114112 ∧ ∀ y ∈ E, ¬ (x < y ∧ y < cur E (k + 1)) := by
  obtain ⟨hl, e⟩ := List.getElem?_eq_some_iff.1 hk
  have hx := h.rng x (List.mem_of_getElem? hk)
  have hP := List.pairwise_iff_getElem.1 hE
  rcases Nat.lt_or_ge (k + 1) E.length with h1 | h1
  · have hn : E[k + 1]? = some E[k + 1] := List.getElem?_eq_getElem h1
    rw [cur_get hn]
    refine ⟨by rw [← e]; exact hP k (k + 1) hl h1 (by omega), by have := h.rng _ (List.mem_of_getElem? hn); omega, fun y hy => ?_⟩
    obtain ⟨j, hj, rfl⟩ := List.getElem_of_mem hy
    rintro ⟨a1, a2⟩
    rcases Nat.lt_or_ge k j with hkj | hkj
    · rcases Nat.eq_or_lt_of_le (show k + 1 ≤ j from hkj) with h2 | h2
      · subst h2; omega
      · have := hP (k + 1) j h1 hj h2; omega
    · rcases Nat.eq_or_lt_of_le hkj with h2 | h2
      · subst h2; omega
      · have := hP j k hj hl h2; omega
  · rw [cur_end h1]
    refine ⟨by omega, by omega, fun y hy => ?_⟩
    obtain ⟨j, hj, rfl⟩ := List.getElem_of_mem hy
    rintro ⟨a1, a2⟩
    rcases Nat.eq_or_lt_of_le (show j ≤ k by omega) with h2 | h2
    · subst h2; omega
    · have := hP j k hj hl h2; omega
/-- Between two places nothing turns. -/
theorem Marks.flat {l a : List R} {E : List Int} (h : Marks l E) (hE : E.Pairwise (· < ·)) (ha : ∀ p ∈ a, p ∈ l) {k : Nat} {x y : Int} (hk : E[k]? = some x) (h1 : x ≤ y) (h2 : y < cur E (k + 1)) : has a y = has a x := by
  obtain ⟨n1, n2, n3⟩ := h.next hE hk
  have hx := h.rng x (List.mem_of_getElem? hk)
  refine has_flat a hx.1 n2 (fun p hp => ?_) (fun p hp => ?_) h1 h2
  · rintro ⟨q1, q2⟩
    exact n3 p.1 (h.lo p (ha p hp) (by omega) (by omega)) ⟨q1, q2⟩
  · rintro ⟨q1, q2⟩
    exact n3 (p.2 + 1) (h.hi p (ha p hp) (by omega) (by omega)) ⟨q1, q2⟩
end Go.Proofs.YtjbcapnpknbbaaaGreat.rng
