/- Texts that the proof leans on, one behind the other. -/
import Derived.Test.YtjbcapnpknbbaaaGreatBndNodMem
import Derived.Laws.Rows

section
/- How much trees take, as plain functions. -/
set_option linter.unusedVariables false
set_option linter.unusedSimpArgs false
namespace Go.Proofs.YtjbcapnpknbbaaaGreat.wid
open Go.Proofs.YtjbcapnpknbbaaaGreat.nod
open Go.Proofs.YtjbcapnpknbbaaaGreat.rng (R)

/-- Two parts, one behind the other. -/
def plusA (x y : R) : R := (min (x.1 + y.1) 1073741824, if x.2 = -1 ∨ y.2 = -1 then -1 else min (x.2 + y.2) 1073741824)
/-- One of two. -/
def orA (x y : R) : R := (min x.1 y.1, if x.2 = -1 ∨ y.2 = -1 then -1 else max x.2 y.2)
def only : List R → R
  | [] => (0, 0)
  | x :: _ => x
def prod (i t : Int) : Int := min (i * min (max t 0) 1073741824) 1073741824
def timesA (x : R) (l m : Int) : R := (prod x.1 l, if x.2 = 0 ∨ m = 0 ∨ m < -1 then 0 else if x.2 = -1 ∨ m = -1 then -1 else prod x.2 m)
def takenA (k a b : Int) (l : List R) : R :=
  if k = 15 then (1, 1) else if k = 6 then l.foldl plusA (0, 0) else if k = 7 then l.foldl orA (only l) else if k = 8 then timesA (only l) a b else if k = 9 ∨ k = 11 then only l else if k = 13 then (0, -1) else if k = 14 then (1, -1) else (0, 0)
mutual
def ofN : Nd → R
  | .mk k _ a b _ _ _ ks => takenA k a b (ofL ks)
def ofL : List Nd → List R
  | [] => []
  | t :: ts => ofN t :: ofL ts
end
theorem ofL_map : ∀ ks : List Nd, ofL ks = ks.map ofN
  | [] => by rw [ofL]; rfl
  | t :: ts => by rw [ofL, ofL_map ts]; rfl
theorem ofN_mk (k m a b : Int) (g : Bool) (n : ByteArray) (s : List R) (ks : List Nd) : ofN (.mk k m a b g n s ks) = takenA k a b (ks.map ofN) := by rw [ofN, ofL_map]

def Ok (x : R) : Prop := 0 ≤ x.1 ∧ x.1 ≤ 1073741824 ∧ -1 ≤ x.2 ∧ x.2 ≤ 1073741824
theorem mul_bounds {i t : Int} (h1 : 0 ≤ i) (h2 : i ≤ 1073741824) (h3 : 0 ≤ t) (h4 : t ≤ 1073741824) : 0 ≤ i * t ∧ i * t ≤ 1152921504606846976 := by
  have e1 := Int.mul_nonneg h1 h3
  have e2 := Int.mul_le_mul h2 h4 h3 (by omega : (0 : Int) ≤ 1073741824)
  omega
theorem prod_ok {i t : Int} (h1 : 0 ≤ i) (h2 : i ≤ 1073741824) : 0 ≤ prod i t ∧ prod i t ≤ 1073741824 := by
  have := mul_bounds h1 h2 (show 0 ≤ min (max t 0) 1073741824 by omega) (by omega)
  unfold prod; omega
theorem plusA_ok {x y : R} (h : Ok x) (h' : Ok y) : Ok (plusA x y) := by
  unfold Ok plusA at *; simp only; split <;> omega
theorem orA_ok {x y : R} (h : Ok x) (h' : Ok y) : Ok (orA x y) := by
  unfold Ok orA at *; simp only; split <;> omega
theorem timesA_ok {x : R} (l m : Int) (h : Ok x) : Ok (timesA x l m) := by
  have h' := h
  unfold Ok timesA at *
  have p1 := prod_ok (t := l) h'.1 h'.2.1
  simp only
  refine ⟨p1.1, p1.2, ?_⟩
  split
  · omega
  · split
    · omega
    · have := prod_ok (i := x.2) (t := m) (by omega) h'.2.2.2; omega
theorem only_ok {l : List R} (h : ∀ x ∈ l, Ok x) : Ok (only l) := by
  cases l with
  | nil => unfold Ok only; simp
  | cons x l => exact h x (by simp)
theorem fold_ok {f : R → R → R} (hf : ∀ x y, Ok x → Ok y → Ok (f x y)) : ∀ (l : List R) (x : R), Ok x → (∀ y ∈ l, Ok y) → Ok (l.foldl f x)
  | [], x, hx, _ => hx
  | y :: l, x, hx, hl => by rw [List.foldl_cons]; exact fold_ok hf l _ (hf x y hx (hl y (by simp))) (fun z hz => hl z (by simp [hz]))
theorem taken_ok {k a b : Int} {l : List R} (h : ∀ x ∈ l, Ok x) : Ok (takenA k a b l) := by
  unfold takenA
  split
  · unfold Ok; simp
  split
  · exact fold_ok (fun _ _ => plusA_ok) l _ (by unfold Ok; simp) h
  split
  · exact fold_ok (fun _ _ => orA_ok) l _ (only_ok h) h
  split
  · exact timesA_ok a b (only_ok h)
  split
  · exact only_ok h
  split
  · unfold Ok; simp
  split
  · unfold Ok; simp
  · unfold Ok; simp
theorem of_ok' : ∀ (N : Nat) (t : Nd), t.sz ≤ N → Ok (ofN t) := by
  intro N
  induction N with
  | zero => intro t h; obtain ⟨k, m, a, b, g, n, s, ks⟩ := t; rw [Nd.sz] at h; omega
  | succ N ih =>
    intro t h
    obtain ⟨k, m, a, b, g, n, s, ks⟩ := t
    rw [ofN_mk]
    refine taken_ok fun x hx => ?_
    obtain ⟨y, hy, rfl⟩ := List.mem_map.1 hx
    exact ih y (by have := szL_mem hy; rw [Nd.sz] at h; omega)
theorem of_ok (t : Nd) : Ok (ofN t) := of_ok' _ t (Nat.le_refl _)
theorem ofs_ok (ks : List Nd) : ∀ x ∈ ks.map ofN, Ok x := fun x hx => by obtain ⟨y, _, rfl⟩ := List.mem_map.1 hx; exact of_ok y

/-! What looks behind -/
def fits (x : R) : Bool := decide (x.2 ≠ -1) && decide (x.2 ≤ 50)
def behind (k m : Int) : Bool := k == 10 && (m == 2 || m == 3)
mutual
def badN : Nd → Bool
  | .mk k m _ _ _ _ _ ks => badL ks || (behind k m && !fits (only (ks.map ofN)))
def badL : List Nd → Bool
  | [] => false
  | t :: ts => badN t || badL ts
end
theorem badL_any : ∀ ks : List Nd, badL ks = ks.any badN
  | [] => by rw [badL]; rfl
  | t :: ts => by rw [badL, badL_any ts]; rfl

/-! The document's numbers -/
def plusR (a b : Int) : Int := if a < 0 ∨ b < 0 then -1 else min (a + b) 1073741824
def greaterR (a b : Int) : Int := if a < 0 ∨ b < 0 then -1 else max a b
def timesR (a n : Int) : Int := if a = 0 ∨ n = 0 then 0 else if a < 0 ∨ n < 0 then -1 else if a > Int.tdiv 1073741824 n then 1073741824 else a * n
theorem plusR_eq {x y : R} (h : Ok x) (h' : Ok y) : (plusR x.1 y.1, plusR x.2 y.2) = plusA x y := by
  unfold Ok at *; unfold plusR plusA
  rw [if_neg (by omega)]
  refine Prod.ext rfl ?_
  simp only
  by_cases c : x.2 = -1 ∨ y.2 = -1
  · rw [if_pos c, if_pos (by omega)]
  · rw [if_neg c, if_neg (by omega)]
theorem greaterR_eq {x y : R} (h : Ok x) (h' : Ok y) : (min x.1 y.1, greaterR x.2 y.2) = orA x y := by
  unfold Ok at *; unfold greaterR orA
  refine Prod.ext rfl ?_
  simp only
  by_cases c : x.2 = -1 ∨ y.2 = -1
  · rw [if_pos c, if_pos (by omega)]
  · rw [if_neg c, if_neg (by omega)]
theorem timesR_prod {i t : Int} (h1 : 0 ≤ i) (h2 : i ≤ 1073741824) (h3 : 0 ≤ t) : timesR i t = prod i t := by
  unfold timesR prod
  rw [show max t 0 = t by omega]
  by_cases c : i = 0 ∨ t = 0
  · rw [if_pos c]
    rcases c with rfl | rfl
    · rw [Int.zero_mul]; omega
    · rw [show min (0 : Int) 1073741824 = 0 by omega, Int.mul_zero]; omega
  · rw [if_neg c, if_neg (by omega)]
    have ht : 0 < t := by omega
    have hi : 0 < i := by omega
    rw [Int.tdiv_eq_ediv_of_nonneg (by omega)]
    have d1 : 1073741824 / t * t + 1073741824 % t = 1073741824 := Int.ediv_mul_add_emod _ _
    have d2 := Int.emod_nonneg 1073741824 (show t ≠ 0 by omega)
    have d3 := Int.emod_lt_of_pos 1073741824 ht
    by_cases e : i > 1073741824 / t
    · rw [if_pos e]
      by_cases f : t ≤ 1073741824
      · rw [show min t 1073741824 = t by omega]
        have : (1073741824 / t + 1) * t ≤ i * t := Int.mul_le_mul_of_nonneg_right (by omega) (by omega)
        rw [Int.add_mul] at this
        omega
      · rw [show min t 1073741824 = 1073741824 by omega]; omega
    · rw [if_neg e]
      have : i * t ≤ 1073741824 / t * t := Int.mul_le_mul_of_nonneg_right (by omega) (by omega)
      have f1 : 1 * t ≤ i * t := Int.mul_le_mul_of_nonneg_right (by omega) (by omega)
      rw [show min t 1073741824 = t by omega]; omega
theorem timesR_eq {x : R} (a b : Int) (h : Ok x) : (timesR x.1 (max a 0), timesR x.2 (if b = -1 then -1 else max b 0)) = timesA x a b := by
  have h' := h
  unfold Ok at h'
  unfold timesA
  have e : prod x.1 a = prod x.1 (max a 0) := by unfold prod; rw [show max (max a 0) 0 = max a 0 by omega]
  refine Prod.ext ?_ ?_
  · simp only; rw [e]; exact timesR_prod h'.1 h'.2.1 (by omega)
  · simp only
    by_cases c : x.2 = 0 ∨ b = 0 ∨ b < -1
    · rw [if_pos c]
      unfold timesR
      by_cases c2 : b = -1
      · rw [if_pos c2, if_pos (by omega)]
      · rw [if_neg c2, if_pos (by omega)]
    · rw [if_neg c]
      by_cases c2 : x.2 = -1 ∨ b = -1
      · rw [if_pos c2]
        unfold timesR
        by_cases c3 : b = -1
        · rw [if_pos c3, if_neg (by omega), if_pos (by omega)]
        · rw [if_neg c3, if_neg (by omega), if_pos (by omega)]
      · rw [if_neg c2, if_neg (by omega), show max b 0 = b by omega]
        exact timesR_prod (by omega) h'.2.2.2 (by omega)
/-- When a product is gone into, it fits. -/
theorem timesR_fits {a n : Int} (h1 : ¬ (a = 0 ∨ n = 0)) (h2 : ¬ (a < 0 ∨ n < 0)) (h3 : ¬ a > Int.tdiv 1073741824 n) : 0 ≤ a * n ∧ a * n ≤ 1073741824 := by
  rw [Int.tdiv_eq_ediv_of_nonneg (by omega)] at h3
  have d1 : 1073741824 / n * n + 1073741824 % n = 1073741824 := Int.ediv_mul_add_emod _ _
  have d2 := Int.emod_nonneg 1073741824 (show n ≠ 0 by omega)
  have : a * n ≤ 1073741824 / n * n := Int.mul_le_mul_of_nonneg_right (by omega) (by omega)
  have := Int.mul_nonneg (show 0 ≤ a by omega) (show 0 ≤ n by omega)
  omega

/-! The order of the least and the greatest -/
mutual
def fineN : Nd → Bool
  | .mk k _ a b _ _ _ ks => !(k == 8 && !(b == -1) && decide (max a 0 > max b 0)) && fineL ks
def fineL : List Nd → Bool
  | [] => true
  | t :: ts => fineN t && fineL ts
end
theorem fineL_all : ∀ ks : List Nd, fineL ks = ks.all fineN
  | [] => by rw [fineL]; rfl
  | t :: ts => by rw [fineL, fineL_all ts]; rfl
def Ord (x : R) : Prop := x.2 = -1 ∨ x.1 ≤ x.2
theorem plusA_ord {x y : R} (h : Ok x ∧ Ord x) (h' : Ok y ∧ Ord y) : Ok (plusA x y) ∧ Ord (plusA x y) := by
  refine ⟨plusA_ok h.1 h'.1, ?_⟩
  unfold Ok Ord plusA at *; simp only; split <;> omega
theorem orA_ord {x y : R} (h : Ok x ∧ Ord x) (h' : Ok y ∧ Ord y) : Ok (orA x y) ∧ Ord (orA x y) := by
  refine ⟨orA_ok h.1 h'.1, ?_⟩
  unfold Ok Ord orA at *; simp only; split <;> omega
theorem fold_ord {f : R → R → R} (hf : ∀ x y, Ok x ∧ Ord x → Ok y ∧ Ord y → Ok (f x y) ∧ Ord (f x y)) : ∀ (l : List R) (x : R), Ok x ∧ Ord x → (∀ y ∈ l, Ok y ∧ Ord y) → Ok (l.foldl f x) ∧ Ord (l.foldl f x)
  | [], x, hx, _ => hx
  | y :: l, x, hx, hl => by rw [List.foldl_cons]; exact fold_ord hf l _ (hf x y hx (hl y (by simp))) (fun z hz => hl z (by simp [hz]))
theorem prod_mono {i j t u : Int} (h1 : 0 ≤ i) (h2 : i ≤ j) (h3 : max t 0 ≤ max u 0) : prod i t ≤ prod j u := by
  unfold prod
  have := Int.mul_le_mul h2 (show min (max t 0) 1073741824 ≤ min (max u 0) 1073741824 by omega) (by omega) (by omega)
  omega
theorem times_ord {x : R} {a b : Int} (h : Ok x ∧ Ord x) (hf : b = -1 ∨ max a 0 ≤ max b 0) : Ord (timesA x a b) := by
  obtain ⟨⟨h1, h2, h3, h4⟩, ho⟩ := h
  unfold Ord at *
  unfold timesA
  simp only
  by_cases c : x.2 = 0 ∨ b = 0 ∨ b < -1
  · rw [if_pos c]
    right
    have : prod x.1 a = 0 := by
      unfold prod
      rcases c with c | c
      · rw [show x.1 = 0 by omega, Int.zero_mul]; omega
      · rw [show min (max a 0) (1073741824 : Int) = 0 by omega, Int.mul_zero]; omega
    omega
  · rw [if_neg c]
    by_cases c2 : x.2 = -1 ∨ b = -1
    · rw [if_pos c2]; exact .inl rfl
    · rw [if_neg c2]
      exact .inr (prod_mono h1 (by omega) (by omega))
theorem only_ord {l : List R} (h : ∀ x ∈ l, Ok x ∧ Ord x) : Ok (only l) ∧ Ord (only l) := by
  cases l with
  | nil => unfold Ok Ord only; simp
  | cons x l => exact h x (by simp)
theorem of_ord' : ∀ (N : Nat) (t : Nd), t.sz ≤ N → fineN t = true → Ord (ofN t) := by
  intro N
  induction N with
  | zero => intro t h; obtain ⟨k, m, a, b, g, n, s, ks⟩ := t; rw [Nd.sz] at h; omega
  | succ N ih =>
    intro t h hf
    obtain ⟨k, m, a, b, g, n, s, ks⟩ := t
    rw [ofN_mk]
    rw [fineN, fineL_all, Bool.and_eq_true, List.all_eq_true] at hf
    have hx : ∀ x ∈ ks.map ofN, Ok x ∧ Ord x := fun x hx => by
      obtain ⟨y, hy, rfl⟩ := List.mem_map.1 hx
      exact ⟨of_ok y, ih y (by have := szL_mem hy; rw [Nd.sz] at h; omega) (hf.2 y hy)⟩
    unfold takenA
    split
    · unfold Ord; simp
    split
    · exact (fold_ord (fun _ _ => plusA_ord) _ _ (by unfold Ok Ord; simp) hx).2
    split
    · exact (fold_ord (fun _ _ => orA_ord) _ _ (only_ord hx) hx).2
    split
    · refine times_ord (only_ord hx) ?_
      have := hf.1
      by_cases c : b = -1
      · exact .inl c
      · right; simp_all
    split
    · exact (only_ord hx).2
    split
    · unfold Ord; simp
    split
    · unfold Ord; simp
    · unfold Ord; simp
theorem of_ord {t : Nd} (h : fineN t = true) : Ord (ofN t) := of_ord' _ t (Nat.le_refl _) h

/-! Joins and times -/
theorem plus_zero {x : R} (h : Ok x) : plusA (0, 0) x = x := by
  unfold Ok at h; unfold plusA
  refine Prod.ext (by simp only; omega) ?_
  simp only
  split <;> omega
theorem seq_two (x y : Nd) (m a b : Int) (g : Bool) (n : ByteArray) (s : List R) : ofN (.mk 6 m a b g n s [x, y]) = plusA (ofN x) (ofN y) := by
  rw [ofN_mk, takenA, if_neg (by decide), if_pos rfl]
  simp only [List.map_cons, List.map_nil, List.foldl_cons, List.foldl_nil]
  rw [plus_zero (of_ok x)]
theorem alt_two (x y : Nd) (m a b : Int) (g : Bool) (n : ByteArray) (s : List R) : ofN (.mk 7 m a b g n s [x, y]) = orA (orA (ofN x) (ofN x)) (ofN y) := by
  rw [ofN_mk, takenA, if_neg (by decide), if_neg (by decide), if_pos rfl]
  rfl
theorem rep_one (x : Nd) (m a b : Int) (g : Bool) (n : ByteArray) (s : List R) : ofN (.mk 8 m a b g n s [x]) = timesA (ofN x) a b := by
  rw [ofN_mk, takenA, if_neg (by decide), if_neg (by decide), if_neg (by decide), if_pos rfl]
  rfl
end Go.Proofs.YtjbcapnpknbbaaaGreat.wid
end

section
/- The small functions of package width. -/
set_option linter.unusedVariables false
set_option linter.unusedSimpArgs false
namespace Go.Proofs.YtjbcapnpknbbaaaGreat.wid
open Go.RowKit
open Go.Proofs.YtjbcapnpknbbaaaGreat.nod
open Go.Proofs.YtjbcapnpknbbaaaGreat.rng (R RV ret_int ret_bool below_drewN info_parts own_below')

theorem infoAmount : (Tryz.prog.info? 88).map (·.size) = some 2 := by kernel_rfl
abbrev agg2 (x : R) : Value := .agg #[.int .i64 x.1, .int .i64 x.2]

theorem only_any (ao : Option Addr) (cap : Nat) (l : List R) (w : World) (hv : RV w ao l) (hl : l.length ≤ 9223372036854775807) :
    Calls Tryz.prog 48 #[.slice ao l.length cap] w fun e w' => e = .returned (agg2 (only l)) ∧ Below w.heap.size w w' := by
  cases l with
  | nil =>
    clear hv
    have HB : Hid (Below w.heap.size w (w.alloc (.cells #[.int .i64 0, .int .i64 0] 88))) := (Below.refl _ w).alloc (Nat.le_refl _) _
    go_enter Tryz.func48, Tryz.ntmps48
    go_wp2
    refine bodyPost_ret (results_cell_row Tryz.results48 _ _ w.heap.size _ _ _ _ rfl (Bk.new w _ _) Tryz.underlying88 rfl infoAmount) rfl ?_
    exact ⟨rfl, HB.out⟩
  | cons x l =>
    obtain ⟨bb, off, rfl, hx⟩ := hv.some (by simp)
    obtain ⟨c0, c1⟩ := hx 0 x rfl
    obtain ⟨x1, x2⟩ := x
    simp only [Nat.zero_mul, Nat.add_zero] at c0 c1
    generalize hn : (((x1, x2) : R) :: l).length = n at *
    have hn0 : ((n : Int) == 0) = false := by rw [← hn]; simp; omega
    have hn1 : 0 < n := by rw [← hn]; simp
    have HB : Hid (Below w.heap.size w (w.alloc (.cells #[.int .i64 x1, .int .i64 x2] 88))) := (Below.refl _ w).alloc (Nat.le_refl _) _
    have c0 := cell_past (.cells #[.int .i64 0, .int .i64 0] 88) c0
    have c1 := cell_past (.cells #[.int .i64 0, .int .i64 0] 88) c1
    clear hv hx hn
    go_enter Tryz.func48, Tryz.ntmps48
    go_wp2
    refine bodyPost_ret (results_cell_row Tryz.results48 _ _ w.heap.size _ _ _ _ rfl (Bk.new w #[.int .i64 x1, .int .i64 x2] _) Tryz.underlying88 rfl infoAmount) rfl ?_
    exact ⟨rfl, HB.out⟩

theorem fits_any (x : R) (w : World) :
    Calls Tryz.prog 49 #[agg2 x] w fun e w' => e = .returned (.bool (fits x)) ∧ Below w.heap.size w w' := by
  obtain ⟨x1, x2⟩ := x
  have HB : Hid (Below w.heap.size w (w.alloc (.cells #[.int .i64 x1, .int .i64 x2] 88))) := (Below.refl _ w).alloc (Nat.le_refl _) _
  by_cases c : x2 = -1
  · subst c
    go_enter Tryz.func49, Tryz.ntmps49
    go_wp2
    go_ret
    exact ⟨rfl, HB.out⟩
  · have c' : (x2 == -1) = false := by simpa using c
    have E : Hid (fits (x1, x2) = decide (x2 ≤ 50)) := by unfold Hid fits; simp [c]
    clear c'
    go_enter Tryz.func49, Tryz.ntmps49
    go_wp2
    go_ret
    exact ⟨by rw [E.out]; exact ret_bool (by simp [c]), HB.out⟩

theorem product_any (i t : Int) (w : World) (h1 : 0 ≤ i) (h2 : i ≤ 1073741824) :
    Calls Tryz.prog 92 #[.int .i64 i, .int .i64 t] w fun e w' => e = .returned (.int .i64 (prod i t)) ∧ w' = w := by
  obtain ⟨M, hM⟩ : ∃ M, max t 0 = M := ⟨_, rfl⟩
  obtain ⟨T, hT⟩ : ∃ T, min M 1073741824 = T := ⟨_, rfl⟩
  have hb := mul_bounds h1 h2 (show 0 ≤ T by omega) (by omega)
  obtain ⟨P, hP⟩ : ∃ P, i * T = P := ⟨_, rfl⟩
  have HE : Hid (prod i t = min P 1073741824) := by unfold Hid prod; rw [hM, hT, hP]
  rw [hP] at hb
  obtain ⟨hb1, hb2⟩ := hb
  have e1 : (if t < 0 then 0 else t) = M := by rw [← hM]; split <;> omega
  have e2 : (if 1073741824 < M then 1073741824 else M) = T := by rw [← hT]; split <;> omega
  have e3 : (if 1073741824 < P then 1073741824 else P) = min P 1073741824 := by split <;> omega
  clear hM hT
  go_enter Tryz.func92, Tryz.ntmps92
  go_wp2
  go_ret
  exact ⟨by rw [HE.out]; rfl, rfl⟩
end Go.Proofs.YtjbcapnpknbbaaaGreat.wid
end

section
/- together and either of package width. -/
set_option linter.unusedVariables false
set_option linter.unusedSimpArgs false
namespace Go.Proofs.YtjbcapnpknbbaaaGreat.wid
open Go.RowKit
open Go.Proofs.YtjbcapnpknbbaaaGreat.nod
open Go.Proofs.YtjbcapnpknbbaaaGreat.rng (R RV ret_int ret_bool below_drewN info_parts own_below')

theorem fold_snoc {f : R → R → R} {l : List R} {k : Nat} {x y : R} (h : l[k]? = some y) : (l.take (k + 1)).foldl f x = f ((l.take k).foldl f x) y := by
  rw [takeX h, List.foldl_append]; rfl
theorem rv_keep {w w' : World} {ao : Option Addr} {l : List R} (h : RV w ao l) (hb : Below w.heap.size w w') : RV w' ao l := h.below hb

set_option maxHeartbeats 4000000 in
theorem together_any (ao : Option Addr) (cap : Nat) (l : List R) (w : World) (hv : RV w ao l) (hl : l.length ≤ 9223372036854775807) (hok : ∀ x ∈ l, Ok x) :
    Calls Tryz.prog 77 #[.slice ao l.length cap] w fun e w' => e = .returned (agg2 (l.foldl plusA (0, 0))) ∧ Below w.heap.size w w' := by
  obtain ⟨n, hn⟩ : ∃ n, l.length = n := ⟨_, rfl⟩
  have HL : Hid (l.length = n) := hn
  have HV : Hid (RV w ao l) := hv
  have HO : Hid (∀ x ∈ l, Ok x) := hok
  rw [hn] at hl ⊢
  have HB : Hid (Below w.heap.size w ((w.alloc (.cells #[.int .i64 0, .int .i64 0] 88)).alloc (.cells #[.int .i64 0, .int .i64 0] 88))) := ((Below.refl _ w).alloc (Nat.le_refl _) _).alloc (by simp) _
  have HA : Hid (Bk ((w.alloc (.cells #[.int .i64 0, .int .i64 0] 88)).alloc (.cells #[.int .i64 0, .int .i64 0] 88)) w.heap.size #[.int .i64 0, .int .i64 0] 88) := (Bk.new w _ _).past _
  have HG0 : Hid (Bk ((w.alloc (.cells #[.int .i64 0, .int .i64 0] 88)).alloc (.cells #[.int .i64 0, .int .i64 0] 88)) (w.heap.size + 1) #[.int .i64 0, .int .i64 0] 88) := by
    have := Bk.new (w.alloc (.cells #[.int .i64 0, .int .i64 0] 88)) #[.int .i64 0, .int .i64 0] 88
    unfold Hid; simpa using this
  obtain ⟨sx, hsx⟩ : ∃ sx : Int, sx = 0 := ⟨_, rfl⟩
  obtain ⟨sy, hsy⟩ : ∃ sy : Int, sy = 0 := ⟨_, rfl⟩
  have HST : Hid ((l.take 0).foldl plusA (0, 0) = (sx, sy)) := by unfold Hid; rw [hsx, hsy]; rfl
  have sx1 : 0 ≤ sx := by omega
  have sx2 : sx ≤ 1073741824 := by omega
  have sy1 : -1 ≤ sy := by omega
  have sy2 : sy ≤ 1073741824 := by omega
  have HG : Hid (Bk ((w.alloc (.cells #[.int .i64 0, .int .i64 0] 88)).alloc (.cells #[.int .i64 0, .int .i64 0] 88)) (w.heap.size + 1) #[.int .i64 sx, .int .i64 sy] 88) := by rw [hsx, hsy]; exact HG0
  clear hv hok hn HG0 hsx hsy
  go_enter Tryz.func77, Tryz.ntmps77
  go_wp2
  go_loopw [8] (fun i wr => ∃ (j : Nat) (x y : Int), j ≤ n ∧ i = .int .i64 j ∧ Hid ((l.take j).foldl plusA (0, 0) = (x, y)) ∧ 0 ≤ x ∧ x ≤ 1073741824 ∧ -1 ≤ y ∧ y ≤ 1073741824 ∧ Hid (Bk wr w.heap.size #[.int .i64 0, .int .i64 0] 88) ∧ Hid (Bk wr (w.heap.size + 1) #[.int .i64 x, .int .i64 y] 88) ∧ Hid (Below w.heap.size w wr)) (fun i _ => n - (intOf i).toNat)
  case atStart => exact ⟨0, sx, sy, Nat.zero_le _, rfl, HST, sx1, sx2, sy1, sy2, HA, HG, HB⟩
  case round =>
    obtain ⟨j, x, y, hj, rfl, HE, x1, x2, y1, y2, HA', HG', HW⟩ := hrel
    clear HA HG HB HST sx1 sx2 sy1 sy2
    have hgs := HG'.out.lt
    by_cases hlt : j < n
    · obtain ⟨p, hp⟩ := getX HL.out hlt
      obtain ⟨b, off, rfl, hx⟩ := (HV.out.below HW.out).some (by have := HL.out; omega)
      obtain ⟨c0, c1⟩ := hx j p hp
      have ho := HO.out p (List.mem_of_getElem? hp)
      obtain ⟨p1, p2⟩ := p
      obtain ⟨o1, o2, o3, o4⟩ := ho
      simp only at c0 c1 o1 o2 o3 o4
      have HN : Hid ((l.take (j + 1)).foldl plusA (0, 0) = plusA (x, y) (p1, p2)) := by unfold Hid; rw [fold_snoc hp, HE.out]
      have g0 := HG'.out.cell 0 (u := .int .i64 x) rfl
      have g1 := HG'.out.cell 1 (u := .int .i64 y) rfl
      have g2 := HG'.out.frozen 0
      have g3 := HG'.out.frozen 1
      have hsz := HW.out.size
      have HS : Hid (∀ X Y o, Bk (((wr.setCell ⟨w.heap.size + 1, 0, none⟩ X).setCell ⟨w.heap.size + 1, 1, none⟩ Y).alloc o) w.heap.size #[.int .i64 0, .int .i64 0] 88 ∧ Bk (((wr.setCell ⟨w.heap.size + 1, 0, none⟩ X).setCell ⟨w.heap.size + 1, 1, none⟩ Y).alloc o) (w.heap.size + 1) #[X, Y] 88 ∧ Below w.heap.size w (((wr.setCell ⟨w.heap.size + 1, 0, none⟩ X).setCell ⟨w.heap.size + 1, 1, none⟩ Y).alloc o)) := fun X Y o => by
        refine ⟨Bk.past ?_ o, Bk.past (HG'.out.set2 X Y) o, ((HW.out.setCell (p := ⟨w.heap.size + 1, 0, none⟩) (by simp only; omega) X).setCell (p := ⟨w.heap.size + 1, 1, none⟩) (by simp only; omega) Y).alloc (by simp [World.setCell]; omega) o⟩
        have b1 : Below (w.heap.size + 1) wr ((wr.setCell ⟨w.heap.size + 1, 0, none⟩ X).setCell ⟨w.heap.size + 1, 1, none⟩ Y) := ((Below.refl _ wr).setCell (p := ⟨w.heap.size + 1, 0, none⟩) (by simp only; omega) X).setCell (p := ⟨w.heap.size + 1, 1, none⟩) (by simp only; omega) Y
        exact HA'.out.keep b1 (by omega)
      clear hx hp HE HV HO HW HA' HG'
      by_cases q : y = -1
      · subst q
        have HM : Hid ((l.take (j + 1)).foldl plusA (0, 0) = (min (x + p1) 1073741824, -1)) := by
          unfold Hid; rw [HN.out]; unfold plusA; simp only; rw [if_pos (by simp)]
        obtain ⟨X, hX⟩ : ∃ X, min (x + p1) 1073741824 = X := ⟨_, rfl⟩
        have hX' : (if 1073741824 < x + p1 then 1073741824 else x + p1) = X := by rw [← hX]; split <;> omega
        rw [hX] at HM
        clear HN
        go_wp2
        go_roundw
        case rel => exact ⟨j + 1, _, _, by omega, by go_num, HM, by omega, by omega, by omega, by omega, (HS.out _ _ _).1, (HS.out _ _ _).2.1, (HS.out _ _ _).2.2⟩
        case measure => simp [intOf]; omega
      by_cases q2 : p2 = -1
      · subst q2
        have HM : Hid ((l.take (j + 1)).foldl plusA (0, 0) = (min (x + p1) 1073741824, -1)) := by
          unfold Hid; rw [HN.out]; unfold plusA; simp only; rw [if_pos (by simp)]
        obtain ⟨X, hX⟩ : ∃ X, min (x + p1) 1073741824 = X := ⟨_, rfl⟩
        have hX' : (if 1073741824 < x + p1 then 1073741824 else x + p1) = X := by rw [← hX]; split <;> omega
        rw [hX] at HM
        clear HN
        go_wp2
        go_roundw
        case rel => exact ⟨j + 1, _, _, by omega, by go_num, HM, by omega, by omega, by omega, by omega, (HS.out _ _ _).1, (HS.out _ _ _).2.1, (HS.out _ _ _).2.2⟩
        case measure => simp [intOf]; omega
      have q' : (y == -1) = false := by simpa using q
      have q2' : (p2 == -1) = false := by simpa using q2
      have HM : Hid ((l.take (j + 1)).foldl plusA (0, 0) = (min (x + p1) 1073741824, min (y + p2) 1073741824)) := by
        unfold Hid; rw [HN.out]; unfold plusA; simp only; rw [if_neg (by omega)]
      obtain ⟨X, hX⟩ : ∃ X, min (x + p1) 1073741824 = X := ⟨_, rfl⟩
      have hX' : (if 1073741824 < x + p1 then 1073741824 else x + p1) = X := by rw [← hX]; split <;> omega
      obtain ⟨Y, hY⟩ : ∃ Y, min (y + p2) 1073741824 = Y := ⟨_, rfl⟩
      have hY' : (if 1073741824 < y + p2 then 1073741824 else y + p2) = Y := by rw [← hY]; split <;> omega
      rw [hX, hY] at HM
      have z1 : 0 ≤ X ∧ X ≤ 1073741824 := by omega
      have z2 : -1 ≤ Y ∧ Y ≤ 1073741824 := by omega
      clear HN
      go_wp2
      go_roundw
      case rel => exact ⟨j + 1, _, _, by omega, by go_num, HM, z1.1, z1.2, z2.1, z2.2, (HS.out _ _ _).1, (HS.out _ _ _).2.1, (HS.out _ _ _).2.2⟩
      case measure => simp [intOf]; omega
    · have HM : Hid (l.foldl plusA (0, 0) = (x, y)) := by
        unfold Hid; rw [← HE.out, List.take_of_length_le (by have := HL.out; omega)]
      have g0 := HG'.out.cell 0 (u := .int .i64 x) rfl
      have g1 := HG'.out.cell 1 (u := .int .i64 y) rfl
      have a0 := HA'.out.cell 0 (u := .int .i64 0) rfl
      have a1 := HA'.out.cell 1 (u := .int .i64 0) rfl
      have a2 := HA'.out.frozen 0
      have a3 := HA'.out.frozen 1
      have HF : Hid (∀ X Y, Below w.heap.size w ((wr.setCell ⟨w.heap.size, 0, none⟩ X).setCell ⟨w.heap.size, 1, none⟩ Y)) := fun X Y => (HW.out.setCell (p := ⟨w.heap.size, 0, none⟩) (Nat.le_refl _) X).setCell (p := ⟨w.heap.size, 1, none⟩) (Nat.le_refl _) Y
      have HA2 : Hid (∀ X Y, Bk ((wr.setCell ⟨w.heap.size, 0, none⟩ X).setCell ⟨w.heap.size, 1, none⟩ Y) w.heap.size #[X, Y] 88) := fun X Y => HA'.out.set2 X Y
      clear HE HV HO HW HA' HG'
      go_wp2
      refine bodyPost_ret (results_cell_row Tryz.results77 _ _ w.heap.size _ #[.int .i64 x, .int .i64 y] _ _ rfl (HA2.out _ _) Tryz.underlying88 rfl infoAmount) rfl ?_
      exact ⟨by rw [HM.out], HF.out _ _⟩
set_option maxHeartbeats 4000000 in
theorem either_any (ao : Option Addr) (cap : Nat) (l : List R) (w : World) (hv : RV w ao l) (hl : l.length ≤ 9223372036854775807) (hok : ∀ x ∈ l, Ok x) :
    Calls Tryz.prog 78 #[.slice ao l.length cap] w fun e w' => e = .returned (agg2 (l.foldl orA (only l))) ∧ Below w.heap.size w w' := by
  obtain ⟨n, hn⟩ : ∃ n, l.length = n := ⟨_, rfl⟩
  have HL : Hid (l.length = n) := hn
  have HV : Hid (RV w ao l) := hv
  have HO : Hid (∀ x ∈ l, Ok x) := hok
  have C := only_any ao cap l (w.alloc (.cells #[.int .i64 0, .int .i64 0] 88)) (hv.below ((Below.refl _ w).alloc (Nat.le_refl _) _)) hl
  have hob := only_ok hok
  rw [hn] at hl C ⊢
  obtain ⟨s0, hs0⟩ : ∃ s, only l = s := ⟨_, rfl⟩
  obtain ⟨sx, sy⟩ := s0
  rw [hs0] at C hob
  have HST : Hid ((l.take 0).foldl orA (only l) = (sx, sy)) := hs0
  have BA : Hid (Below w.heap.size w (w.alloc (.cells #[.int .i64 0, .int .i64 0] 88))) := (Below.refl _ w).alloc (Nat.le_refl _) _
  obtain ⟨sx1, sx2, sy1, sy2⟩ := hob
  simp only at sx1 sx2 sy1 sy2 C
  clear hv hok hn hs0
  go_enter Tryz.func78, Tryz.ntmps78
  go_wp2_with (go_at_call 48; refine C.mono ?_; rintro e w1 ⟨rfl, d⟩; have D : Hid (Below _ _ w1) := d; clear d)
  have hD : w.heap.size + 1 ≤ w1.heap.size := by have := D.out.size; simpa using this
  have HB0 : Below w.heap.size w w1 := BA.out.trans ⟨D.out.os, D.out.tape, D.out.output, D.out.size, fun k hk => D.out.block k (by simp; omega)⟩
  have HB : Hid (Below w.heap.size w (w1.alloc (.cells #[.int .i64 sx, .int .i64 sy] 88))) := HB0.alloc (by omega) _
  have HA : Hid (Bk (w1.alloc (.cells #[.int .i64 sx, .int .i64 sy] 88)) w.heap.size #[.int .i64 0, .int .i64 0] 88) := ((Bk.new w _ _).keep D.out (by simp)).past _
  have HG : Hid (Bk (w1.alloc (.cells #[.int .i64 sx, .int .i64 sy] 88)) w1.heap.size #[.int .i64 sx, .int .i64 sy] 88) := Bk.new w1 _ _
  clear C BA D HB0
  go_loopw [10] (fun i wr => ∃ (j : Nat) (x y : Int), j ≤ n ∧ i = .int .i64 j ∧ Hid ((l.take j).foldl orA (only l) = (x, y)) ∧ 0 ≤ x ∧ x ≤ 1073741824 ∧ -1 ≤ y ∧ y ≤ 1073741824 ∧ Hid (Bk wr w.heap.size #[.int .i64 0, .int .i64 0] 88) ∧ Hid (Bk wr w1.heap.size #[.int .i64 x, .int .i64 y] 88) ∧ Hid (Below w.heap.size w wr)) (fun i _ => n - (intOf i).toNat)
  case atStart => exact ⟨0, sx, sy, Nat.zero_le _, rfl, HST, sx1, sx2, sy1, sy2, HA, HG, HB⟩
  case round =>
    obtain ⟨j, x, y, hj, rfl, HE, x1, x2, y1, y2, HA', HG', HW⟩ := hrel
    clear HA HG HB HST sx1 sx2 sy1 sy2
    have hgs := HG'.out.lt
    by_cases hlt : j < n
    · obtain ⟨p, hp⟩ := getX HL.out hlt
      obtain ⟨b, off, rfl, hx⟩ := (HV.out.below HW.out).some (by have := HL.out; omega)
      obtain ⟨c0, c1⟩ := hx j p hp
      have ho := HO.out p (List.mem_of_getElem? hp)
      obtain ⟨p1, p2⟩ := p
      obtain ⟨o1, o2, o3, o4⟩ := ho
      simp only at c0 c1 o1 o2 o3 o4
      have HN : Hid ((l.take (j + 1)).foldl orA (only l) = orA (x, y) (p1, p2)) := by unfold Hid; rw [fold_snoc hp, HE.out]
      have g0 := HG'.out.cell 0 (u := .int .i64 x) rfl
      have g1 := HG'.out.cell 1 (u := .int .i64 y) rfl
      have g2 := HG'.out.frozen 0
      have g3 := HG'.out.frozen 1
      have hsz := HW.out.size
      have HS : Hid (∀ X Y o, Bk (((wr.setCell ⟨w1.heap.size, 0, none⟩ X).setCell ⟨w1.heap.size, 1, none⟩ Y).alloc o) w.heap.size #[.int .i64 0, .int .i64 0] 88 ∧ Bk (((wr.setCell ⟨w1.heap.size, 0, none⟩ X).setCell ⟨w1.heap.size, 1, none⟩ Y).alloc o) w1.heap.size #[X, Y] 88 ∧ Below w.heap.size w (((wr.setCell ⟨w1.heap.size, 0, none⟩ X).setCell ⟨w1.heap.size, 1, none⟩ Y).alloc o)) := fun X Y o => by
        refine ⟨Bk.past ?_ o, Bk.past (HG'.out.set2 X Y) o, ((HW.out.setCell (p := ⟨w1.heap.size, 0, none⟩) (by simp only; omega) X).setCell (p := ⟨w1.heap.size, 1, none⟩) (by simp only; omega) Y).alloc (by simp [World.setCell]; omega) o⟩
        have b1 : Below (w.heap.size + 1) wr ((wr.setCell ⟨w1.heap.size, 0, none⟩ X).setCell ⟨w1.heap.size, 1, none⟩ Y) := ((Below.refl _ wr).setCell (p := ⟨w1.heap.size, 0, none⟩) (by simp only; omega) X).setCell (p := ⟨w1.heap.size, 1, none⟩) (by simp only; omega) Y
        exact HA'.out.keep b1 (by omega)
      clear hx hp HE HV HO HW HA' HG'
      by_cases q : y = -1
      · subst q
        have HM : Hid ((l.take (j + 1)).foldl orA (only l) = (min x p1, -1)) := by
          unfold Hid; rw [HN.out]; unfold orA; simp only; rw [if_pos (by simp)]
        obtain ⟨X, hX⟩ : ∃ X, min x p1 = X := ⟨_, rfl⟩
        have hX' : (if p1 < x then p1 else x) = X := by rw [← hX]; split <;> omega
        rw [hX] at HM
        clear HN
        go_wp2
        go_roundw
        case rel => exact ⟨j + 1, _, _, by omega, by go_num, HM, by omega, by omega, by omega, by omega, (HS.out _ _ _).1, (HS.out _ _ _).2.1, (HS.out _ _ _).2.2⟩
        case measure => simp [intOf]; omega
      by_cases q2 : p2 = -1
      · subst q2
        have HM : Hid ((l.take (j + 1)).foldl orA (only l) = (min x p1, -1)) := by
          unfold Hid; rw [HN.out]; unfold orA; simp only; rw [if_pos (by simp)]
        obtain ⟨X, hX⟩ : ∃ X, min x p1 = X := ⟨_, rfl⟩
        have hX' : (if p1 < x then p1 else x) = X := by rw [← hX]; split <;> omega
        rw [hX] at HM
        clear HN
        go_wp2
        go_roundw
        case rel => exact ⟨j + 1, _, _, by omega, by go_num, HM, by omega, by omega, by omega, by omega, (HS.out _ _ _).1, (HS.out _ _ _).2.1, (HS.out _ _ _).2.2⟩
        case measure => simp [intOf]; omega
      have q' : (y == -1) = false := by simpa using q
      have q2' : (p2 == -1) = false := by simpa using q2
      have HM : Hid ((l.take (j + 1)).foldl orA (only l) = (min x p1, max y p2)) := by
        unfold Hid; rw [HN.out]; unfold orA; simp only; rw [if_neg (by omega)]
      obtain ⟨X, hX⟩ : ∃ X, min x p1 = X := ⟨_, rfl⟩
      have hX' : (if p1 < x then p1 else x) = X := by rw [← hX]; split <;> omega
      obtain ⟨Y, hY⟩ : ∃ Y, max y p2 = Y := ⟨_, rfl⟩
      have hY' : (if y < p2 then p2 else y) = Y := by rw [← hY]; split <;> omega
      rw [hX, hY] at HM
      have z1 : 0 ≤ X ∧ X ≤ 1073741824 := by omega
      have z2 : -1 ≤ Y ∧ Y ≤ 1073741824 := by omega
      clear HN
      go_wp2
      go_roundw
      case rel => exact ⟨j + 1, _, _, by omega, by go_num, HM, z1.1, z1.2, z2.1, z2.2, (HS.out _ _ _).1, (HS.out _ _ _).2.1, (HS.out _ _ _).2.2⟩
      case measure => simp [intOf]; omega
    · have HM : Hid (l.foldl orA (only l) = (x, y)) := by
        unfold Hid; rw [← HE.out, List.take_of_length_le (by have := HL.out; omega)]
      have g0 := HG'.out.cell 0 (u := .int .i64 x) rfl
      have g1 := HG'.out.cell 1 (u := .int .i64 y) rfl
      have a0 := HA'.out.cell 0 (u := .int .i64 0) rfl
      have a1 := HA'.out.cell 1 (u := .int .i64 0) rfl
      have a2 := HA'.out.frozen 0
      have a3 := HA'.out.frozen 1
      have HF : Hid (∀ X Y, Below w.heap.size w ((wr.setCell ⟨w.heap.size, 0, none⟩ X).setCell ⟨w.heap.size, 1, none⟩ Y)) := fun X Y => (HW.out.setCell (p := ⟨w.heap.size, 0, none⟩) (Nat.le_refl _) X).setCell (p := ⟨w.heap.size, 1, none⟩) (Nat.le_refl _) Y
      have HA2 : Hid (∀ X Y, Bk ((wr.setCell ⟨w.heap.size, 0, none⟩ X).setCell ⟨w.heap.size, 1, none⟩ Y) w.heap.size #[X, Y] 88) := fun X Y => HA'.out.set2 X Y
      clear HE HV HO HW HA' HG'
      go_wp2
      refine bodyPost_ret (results_cell_row Tryz.results78 _ _ w.heap.size _ #[.int .i64 x, .int .i64 y] _ _ rfl (HA2.out _ _) Tryz.underlying88 rfl infoAmount) rfl ?_
      exact ⟨by rw [HM.out], HF.out _ _⟩
end Go.Proofs.YtjbcapnpknbbaaaGreat.wid
end
