/- How much trees take, as plain functions. -/
import Derived.Test.YtjblccgkocknbaaNodMem
set_option linter.unusedVariables false
set_option linter.unusedSimpArgs false
namespace Go.Proofs.Ytjblccgkocknbaa.wid
open Go.Proofs.Ytjblccgkocknbaa.nod
open Go.Proofs.Ytjblccgkocknbaa.rng (R)

/-- Two parts, one behind the other. -/
def plusA (x y : R) : R := (min (x.1 + y.1) 1073741824, if x.2 = -1 ∨ y.2 = -1 then -1 else min (x.2 + y.2) 1073741824)
/-- One of two. -/
def orA (x y : R) : R := (min x.1 y.1, if x.2 = -1 ∨ y.2 = -1 then -1 else max x.2 y.2)
def only : List R → R
  | [] => (0, 0)
  | x :: _ => x
def prod (i t : Int) : Int := min (i * min (max t 0) 1073741824) 1073741824
def timesA (x : R) (l m : Int) : R := (prod x.1 l, if x.2 = 0 ∨ m = 0 ∨ m < -1 then 0 else if x.2 = -1 ∨ m = -1 then -1 else prod x.2 m)
def takenA (k a b : Int) (l : List R) : R :=
  if k = 15 then (1, 1) else if k = 6 then l.foldl plusA (0, 0) else if k = 7 then l.foldl orA (only l) else if k = 8 then timesA (only l) a b else if k = 9 ∨ k = 11 then only l else if k = 13 then (0, -1) else if k = 14 then (1, -1) else (0, 0)
mutual
def ofN : Nd → R
  | .mk k _ a b _ _ _ ks => takenA k a b (ofL ks)
def ofL : List Nd → List R
  | [] => []
  | t :: ts => ofN t :: ofL ts
end
theorem ofL_map : ∀ ks : List Nd, ofL ks = ks.map ofN
  | [] => by rw [ofL]; rfl
  | t :: ts => by rw [ofL, ofL_map ts]; rfl
theorem ofN_mk (k m a b : Int) (g : Bool) (n : ByteArray) (s : List R) (ks : List Nd) : ofN (.mk k m a b g n s ks) = takenA k a b (ks.map ofN) := by rw [ofN, ofL_map]

def Ok (x : R) : Prop := 0 ≤ x.1 ∧ x.1 ≤ 1073741824 ∧ -1 ≤ x.2 ∧ x.2 ≤ 1073741824
theorem mul_bounds {i t : Int} (h1 : 0 ≤ i) (h2 : i ≤ 1073741824) (h3 : 0 ≤ t) (h4 : t ≤ 1073741824) : 0 ≤ i * t ∧ i * t ≤ 1152921504606846976 := by
  have e1 := Int.mul_nonneg h1 h3
  have e2 := Int.mul_le_mul h2 h4 h3 (by omega : (0 : Int) ≤ 1073741824)
  omega
theorem prod_ok {i t : Int} (h1 : 0 ≤ i) (h2 : i ≤ 1073741824) : 0 ≤ prod i t ∧ prod i t ≤ 1073741824 := by
  have := mul_bounds h1 h2 (show 0 ≤ min (max t 0) 1073741824 by omega) (by omega)
  unfold prod; omega
theorem plusA_ok {x y : R} (h : Ok x) (h' : Ok y) : Ok (plusA x y) := by
  unfold Ok plusA at *; simp only; split <;> omega
theorem orA_ok {x y : R} (h : Ok x) (h' : Ok y) : Ok (orA x y) := by
  unfold Ok orA at *; simp only; split <;> omega
theorem timesA_ok {x : R} (l m : Int) (h : Ok x) : Ok (timesA x l m) := by
  have h' := h
  unfold Ok timesA at *
  have p1 := prod_ok (t := l) h'.1 h'.2.1
  simp only
  refine ⟨p1.1, p1.2, ?_⟩
  split
  · omega
  · split
    · omega
    · have := prod_ok (i := x.2) (t := m) (by omega) h'.2.2.2; omega
theorem only_ok {l : List R} (h : ∀ x ∈ l, Ok x) : Ok (only l) := by
  cases l with
  | nil => unfold Ok only; simp
  | cons x l => exact h x (by simp)
theorem fold_ok {f : R → R → R} (hf : ∀ x y, Ok x → Ok y → Ok (f x y)) : ∀ (l : List R) (x : R), Ok x → (∀ y ∈ l, Ok y) → Ok (l.foldl f x)
  | [], x, hx, _ => hx
  | y :: l, x, hx, hl => by rw [List.foldl_cons]; exact fold_ok hf l _ (hf x y hx (hl y (by simp))) (fun z hz => hl z (by simp [hz]))
theorem taken_ok {k a b : Int} {l : List R} (h : ∀ x ∈ l, Ok x) : Ok (takenA k a b l) := by
  unfold takenA
  split
  · unfold Ok; simp
  split
  · exact fold_ok (fun _ _ => plusA_ok) l _ (by unfold Ok; simp) h
  split
  · exact fold_ok (fun _ _ => orA_ok) l _ (only_ok h) h
  split
  · exact timesA_ok a b (only_ok h)
  split
  · exact only_ok h
  split
  · unfold Ok; simp
  split
  · unfold Ok; simp
  · unfold Ok; simp
theorem of_ok' : ∀ (N : Nat) (t : Nd), t.sz ≤ N → Ok (ofN t) := by
  intro N
  induction N with
  | zero => intro t h; obtain ⟨k, m, a, b, g, n, s, ks⟩ := t; rw [Nd.sz] at h; omega
  | succ N ih =>
    intro t h
    obtain ⟨k, m, a, b, g, n, s, ks⟩ := t
    rw [ofN_mk]
    refine taken_ok fun x hx => ?_
    obtain ⟨y, hy, rfl⟩ := List.mem_map.1 hx
    exact ih y (by have := szL_mem hy; rw [Nd.sz] at h; omega)
theorem of_ok (t : Nd) : Ok (ofN t) := of_ok' _ t (Nat.le_refl _)
theorem ofs_ok (ks : List Nd) : ∀ x ∈ ks.map ofN, Ok x := fun x hx => by obtain ⟨y, _, rfl⟩ := List.mem_map.1 hx; exact of_ok y

/-! What looks behind -/
def fits (x : R) : Bool := decide (x.2 ≠ -1) && decide (x.2 ≤ 50)
def behind (k m : Int) : Bool := k == 10 && (m == 2 || m == 3)
mutual
def badN : Nd → Bool
  | .mk k m _ _ _ _ _ ks => badL ks || (behind k m && !fits (only (ks.map ofN)))
def badL : List Nd → Bool
  | [] => false
  | t :: ts => badN t || badL ts
end
theorem badL_any : ∀ ks : List Nd, badL ks = ks.any badN
  | [] => by rw [badL]; rfl
  | t :: ts => by rw [badL, badL_any ts]; rfl

/-! The document's numbers -/
def plusR (a b : Int) : Int := if a < 0 ∨ b < 0 then -1 else min (a + b) 1073741824
def greaterR (a b : Int) : Int := if a < 0 ∨ b < 0 then -1 else max a b
def timesR (a n : Int) : Int := if a = 0 ∨ n = 0 then 0 else if a < 0 ∨ n < 0 then -1 else if a > Int.tdiv 1073741824 n then 1073741824 else a * n
theorem plusR_eq {x y : R} (h : Ok x) (h' : Ok y) : (plusR x.1 y.1, plusR x.2 y.2) = plusA x y := by
  unfold Ok at *; unfold plusR plusA
  rw [if_neg (by omega)]
  refine Prod.ext rfl ?_
  simp only
  by_cases c : x.2 = -1 ∨ y.2 = -1
  · rw [if_pos c, if_pos (by omega)]
  · rw [if_neg c, if_neg (by omega)]
theorem greaterR_eq {x y : R} (h : Ok x) (h' : Ok y) : (min x.1 y.1, greaterR x.2 y.2) = orA x y := by
  unfold Ok at *; unfold greaterR orA
  refine Prod.ext rfl ?_
  simp only
  by_cases c : x.2 = -1 ∨ y.2 = -1
  · rw [if_pos c, if_pos (by omega)]
  · rw [if_neg c, if_neg (by omega)]
theorem timesR_prod {i t : Int} (h1 : 0 ≤ i) (h2 : i ≤ 1073741824) (h3 : 0 ≤ t) : timesR i t = prod i t := by
  unfold timesR prod
  rw [show max t 0 = t by omega]
  by_cases c : i = 0 ∨ t = 0
  · rw [if_pos c]
    rcases c with rfl | rfl
    · rw [Int.zero_mul]; omega
    · rw [show min (0 : Int) 1073741824 = 0 by omega, Int.mul_zero]; omega
  · rw [if_neg c, if_neg (by omega)]
    have ht : 0 < t := by omega
    have hi : 0 < i := by omega
    rw [Int.tdiv_eq_ediv_of_nonneg (by omega)]
    have d1 : 1073741824 / t * t + 1073741824 % t = 1073741824 := Int.ediv_mul_add_emod _ _
    have d2 := Int.emod_nonneg 1073741824 (show t ≠ 0 by omega)
    have d3 := Int.emod_lt_of_pos 1073741824 ht
    by_cases e : i > 1073741824 / t
    · rw [if_pos e]
      by_cases f : t ≤ 1073741824
      · rw [show min t 1073741824 = t by omega]
        have : (1073741824 / t + 1) * t ≤ i * t := Int.mul_le_mul_of_nonneg_right (by omega) (by omega)
        rw [Int.add_mul] at this
        omega
      · rw [show min t 1073741824 = 1073741824 by omega]; omega
    · rw [if_neg e]
      have : i * t ≤ 1073741824 / t * t := Int.mul_le_mul_of_nonneg_right (by omega) (by omega)
      have f1 : 1 * t ≤ i * t := Int.mul_le_mul_of_nonneg_right (by omega) (by omega)
      rw [show min t 1073741824 = t by omega]; omega
theorem timesR_eq {x : R} (a b : Int) (h : Ok x) : (timesR x.1 (max a 0), timesR x.2 (if b = -1 then -1 else max b 0)) = timesA x a b := by
  have h' := h
  unfold Ok at h'
  unfold timesA
  have e : prod x.1 a = prod x.1 (max a 0) := by unfold prod; rw [show max (max a 0) 0 = max a 0 by omega]
  refine Prod.ext ?_ ?_
  · simp only; rw [e]; exact timesR_prod h'.1 h'.2.1 (by omega)
  · simp only
    by_cases c : x.2 = 0 ∨ b = 0 ∨ b < -1
    · rw [if_pos c]
      unfold timesR
      by_cases c2 : b = -1
      · rw [if_pos c2, if_pos (by omega)]
      · rw [if_neg c2, if_pos (by omega)]
    · rw [if_neg c]
      by_cases c2 : x.2 = -1 ∨ b = -1
      · rw [if_pos c2]
        unfold timesR
        by_cases c3 : b = -1
        · rw [if_pos c3, if_neg (by omega), if_pos (by omega)]
        · rw [if_neg c3, if_neg (by omega), if_pos (by omega)]
      · rw [if_neg c2, if_neg (by omega), show max b 0 = b by omega]
        exact timesR_prod (by omega) h'.2.2.2 (by omega)
/-- When a product is gone into, it fits. -/
theorem timesR_fits {a n : Int} (h1 : ¬ (a = 0 ∨ n = 0)) (h2 : ¬ (a < 0 ∨ n < 0)) (h3 : ¬ a > Int.tdiv 1073741824 n) : 0 ≤ a * n ∧ a * n ≤ 1073741824 := by
  rw [Int.tdiv_eq_ediv_of_nonneg (by omega)] at h3
  have d1 : 1073741824 / n * n + 1073741824 % n = 1073741824 := Int.ediv_mul_add_emod _ _
  have d2 := Int.emod_nonneg 1073741824 (show n ≠ 0 by omega)
  have : a * n ≤ 1073741824 / n * n := Int.mul_le_mul_of_nonneg_right (by omega) (by omega)
  have := Int.mul_nonneg (show 0 ≤ a by omega) (show 0 ≤ n by omega)
  omega

/-! The order of the least and the greatest -/
mutual
def fineN : Nd → Bool
  | .mk k _ a b _ _ _ ks => !(k == 8 && !(b == -1) && decide (max a 0 > max b 0)) && fineL ks
def fineL : List Nd → Bool
  | [] => true
  | t :: ts => fineN t && fineL ts
end
theorem fineL_all : ∀ ks : List Nd, fineL ks = ks.all fineN
  | [] => by rw [fineL]; rfl
  | t :: ts => by rw [fineL, fineL_all ts]; rfl
def Ord (x : R) : Prop := x.2 = -1 ∨ x.1 ≤ x.2
theorem plusA_ord {x y : R} (h : Ok x ∧ Ord x) (h' : Ok y ∧ Ord y) : Ok (plusA x y) ∧ Ord (plusA x y) := by
  refine ⟨plusA_ok h.1 h'.1, ?_⟩
  unfold Ok Ord plusA at *; simp only; split <;> omega
theorem orA_ord {x y : R} (h : Ok x ∧ Ord x) (h' : Ok y ∧ Ord y) : Ok (orA x y) ∧ Ord (orA x y) := by
  refine ⟨orA_ok h.1 h'.1, ?_⟩
  unfold Ok Ord orA at *; simp only; split <;> omega
theorem fold_ord {f : R → R → R} (hf : ∀ x y, Ok x ∧ Ord x → Ok y ∧ Ord y → Ok (f x y) ∧ Ord (f x y)) : ∀ (l : List R) (x : R), Ok x ∧ Ord x → (∀ y ∈ l, Ok y ∧ Ord y) → Ok (l.foldl f x) ∧ Ord (l.foldl f x)
  | [], x, hx, _ => hx
  | y :: l, x, hx, hl => by rw [List.foldl_cons]; exact fold_ord hf l _ (hf x y hx (hl y (by simp))) (fun z hz => hl z (by simp [hz]))
theorem prod_mono {i j t u : Int} (h1 : 0 ≤ i) (h2 : i ≤ j) (h3 : max t 0 ≤ max u 0) : prod i t ≤ prod j u := by
  unfold prod
  have := Int.mul_le_mul h2 (show min (max t 0) 1073741824 ≤ min (max u 0) 1073741824 by omega) (by omega) (by omega)
  omega
theorem times_ord {x : R} {a b : Int} (h : Ok x ∧ Ord x) (hf : b = -1 ∨ max a 0 ≤ max b 0) : Ord (timesA x a b) := by
  obtain ⟨⟨h1, h2, h3, h4⟩, ho⟩ := h
  unfold Ord at *
  unfold timesA
  simp only
  by_cases c : x.2 = 0 ∨ b = 0 ∨ b < -1
  · rw [if_pos c]
    right
    have : prod x.1 a = 0 := by
      unfold prod
      rcases c with c | c
      · rw [show x.1 = 0 by omega, Int.zero_mul]; omega
      · rw [show min (max a 0) (1073741824 : Int) = 0 by omega, Int.mul_zero]; omega
    omega
  · rw [if_neg c]
    by_cases c2 : x.2 = -1 ∨ b = -1
    · rw [if_pos c2]; exact .inl rfl
    · rw [if_neg c2]
      exact .inr (prod_mono h1 (by omega) (by omega))
theorem only_ord {l : List R} (h : ∀ x ∈ l, Ok x ∧ Ord x) : Ok (only l) ∧ Ord (only l) := by
  cases l with
  | nil => unfold Ok Ord only; simp
  | cons x l => exact h x (by simp)
theorem of_ord' : ∀ (N : Nat) (t : Nd), t.sz ≤ N → fineN t = true → Ord (ofN t) := by
  intro N
  induction N with
  | zero => intro t h; obtain ⟨k, m, a, b, g, n, s, ks⟩ := t; rw [Nd.sz] at h; omega
  | succ N ih =>
    intro t h hf
    obtain ⟨k, m, a, b, g, n, s, ks⟩ := t
    rw [ofN_mk]
    rw [fineN, fineL_all, Bool.and_eq_true, List.all_eq_true] at hf
    have hx : ∀ x ∈ ks.map ofN, Ok x ∧ Ord x := fun x hx => by
      obtain ⟨y, hy, rfl⟩ := List.mem_map.1 hx
      exact ⟨of_ok y, ih y (by have := szL_mem hy; rw [Nd.sz] at h; omega) (hf.2 y hy)⟩
    unfold takenA
    split
    · unfold Ord; simp
    split
    · exact (fold_ord (fun _ _ => plusA_ord) _ _ (by unfold Ok Ord; simp) hx).2
    split
    · exact (fold_ord (fun _ _ => orA_ord) _ _ (only_ord hx) hx).2
    split
    · refine times_ord (only_ord hx) ?_
      have := hf.1
      by_cases c : b = -1
      · exact .inl c
      · right; simp_all
    split
    · exact (only_ord hx).2
    split
    · unfold Ord; simp
    split
    · unfold Ord; simp
    · unfold Ord; simp
theorem of_ord {t : Nd} (h : fineN t = true) : Ord (ofN t) := of_ord' _ t (Nat.le_refl _) h

/-! Joins and times -/
theorem plus_zero {x : R} (h : Ok x) : plusA (0, 0) x = x := by
  unfold Ok at h; unfold plusA
  refine Prod.ext (by simp only; omega) ?_
  simp only
  split <;> omega
theorem seq_two (x y : Nd) (m a b : Int) (g : Bool) (n : ByteArray) (s : List R) : ofN (.mk 6 m a b g n s [x, y]) = plusA (ofN x) (ofN y) := by
  rw [ofN_mk, takenA, if_neg (by decide), if_pos rfl]
  simp only [List.map_cons, List.map_nil, List.foldl_cons, List.foldl_nil]
  rw [plus_zero (of_ok x)]
theorem alt_two (x y : Nd) (m a b : Int) (g : Bool) (n : ByteArray) (s : List R) : ofN (.mk 7 m a b g n s [x, y]) = orA (orA (ofN x) (ofN x)) (ofN y) := by
  rw [ofN_mk, takenA, if_neg (by decide), if_neg (by decide), if_pos rfl]
  rfl
theorem rep_one (x : Nd) (m a b : Int) (g : Bool) (n : ByteArray) (s : List R) : ofN (.mk 8 m a b g n s [x]) = timesA (ofN x) a b := by
  rw [ofN_mk, takenA, if_neg (by decide), if_neg (by decide), if_neg (by decide), if_pos rfl]
  rfl
end Go.Proofs.Ytjblccgkocknbaa.wid
