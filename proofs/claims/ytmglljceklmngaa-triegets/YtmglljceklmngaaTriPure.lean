/- Plain mathematics of values of code points (no program): entries, the last one with a code point, lists that rise, one list laid over another. -/
import Derived.Test.YtmglljceklmngaaRngPure3
set_option linter.unusedVariables false
set_option linter.unusedSimpArgs false
namespace Go.Proofs.Ytmglljceklmngaa.tri
open Go.Proofs.Ytmglljceklmngaa.rng (R code inP has IsSet code_iff inP_iff has_iff has_cons has_nil)

abbrev E := Int × Int × Int
/-- The value of the first entry with x. -/
def at_ : List E → Int → Option Int
  | [], _ => none
  | e :: l, x => if e.1 ≤ x ∧ x ≤ e.2.1 then some e.2.2 else at_ l x
/-- The value of the last entry with x. -/
def last : List E → Int → Option Int
  | [], _ => none
  | e :: l, x => (last l x).or (if e.1 ≤ x ∧ x ≤ e.2.1 then some e.2.2 else none)
/-- Rising from lo on, of code points alone, with values below n. -/
def Ris (n : Int) : Int → List E → Prop
  | _, [] => True
  | lo, e :: l => lo ≤ e.1 ∧ e.1 ≤ e.2.1 ∧ e.2.1 ≤ 1114111 ∧ 0 ≤ e.2.2 ∧ e.2.2 < n ∧ Ris n (e.2.1 + 1) l
/-- Entries that play a part. -/
def clip (e : E) : E := (max e.1 0, min e.2.1 1114111, e.2.2)
def good (n : Int) (e : E) : Bool := decide (e.1 ≤ e.2.1) && decide (0 ≤ e.2.2) && decide (e.2.2 < n)
def use (n : Int) (l : List E) : List E := (l.map clip).filter (good n)

theorem at_append (l m : List E) (x : Int) : at_ (l ++ m) x = (at_ l x).or (at_ m x) := by
  induction l with
  | nil => simp [at_]
  | cons e l ih =>
    rw [List.cons_append, at_, at_]
    by_cases h : e.1 ≤ x ∧ x ≤ e.2.1
    · rw [if_pos h, if_pos h]; rfl
    · rw [if_neg h, if_neg h, ih]
theorem last_append (l m : List E) (x : Int) : last (l ++ m) x = (last m x).or (last l x) := by
  induction l with
  | nil => simp [last]
  | cons e l ih => rw [List.cons_append, last, last, ih, Option.or_assoc]
theorem ris_mono {n lo lo' : Int} {l : List E} (h : Ris n lo l) (hl : lo' ≤ lo) : Ris n lo' l := by
  cases l with
  | nil => trivial
  | cons e l => obtain ⟨h1, h2⟩ := h; exact ⟨by omega, h2⟩
theorem ris_none {n : Int} : ∀ {l : List E} {lo x : Int}, Ris n lo l → x < lo → at_ l x = none
  | [], lo, x, _, _ => rfl
  | e :: l, lo, x, h, hx => by
    obtain ⟨h1, h2, h3, h4, h5, h6⟩ := h
    rw [at_, if_neg (by omega)]
    exact ris_none h6 (by omega)
theorem ris_last {n : Int} : ∀ {l : List E} {lo : Int} (x : Int), Ris n lo l → last l x = at_ l x
  | [], lo, x, _ => rfl
  | e :: l, lo, x, h => by
    obtain ⟨h1, h2, h3, h4, h5, h6⟩ := h
    rw [at_, last, ris_last x h6]
    by_cases h : e.1 ≤ x ∧ x ≤ e.2.1
    · rw [if_pos h, if_pos h, ris_none h6 (by omega)]; rfl
    · rw [if_neg h, if_neg h]; simp
theorem ris_one {n : Int} {e : E} (h : good n e = true) (h0 : 0 ≤ e.1) (h1 : e.2.1 ≤ 1114111) : Ris n 0 [e] := by
  simp [good] at h
  exact ⟨h0, h.1.1, h1, h.1.2, h.2, trivial⟩
theorem ris_length {n : Int} : ∀ (l : List E) (lo : Int), Ris n lo l → l = [] ∨ lo + l.length ≤ 1114112
  | [], lo, h => .inl rfl
  | e :: l, lo, h => by
    obtain ⟨h1, h2, h3, h4, h5, h6⟩ := h
    right
    rcases ris_length l _ h6 with rfl | h7
    · simp; omega
    · simp; omega
theorem ris_len {n : Int} {l : List E} (h : Ris n 0 l) : l.length ≤ 1114112 := by
  rcases ris_length l 0 h with rfl | h
  · simp
  · omega
theorem ris_mem {n : Int} : ∀ {l : List E} {lo : Int}, Ris n lo l → ∀ e ∈ l, lo ≤ e.1 ∧ e.1 ≤ e.2.1 ∧ e.2.1 ≤ 1114111 ∧ 0 ≤ e.2.2 ∧ e.2.2 < n
  | [], lo, h, e, he => by cases he
  | a :: l, lo, h, e, he => by
    obtain ⟨h1, h2, h3, h4, h5, h6⟩ := h
    rcases List.mem_cons.1 he with rfl | he
    · exact ⟨h1, h2, h3, h4, h5⟩
    · have := ris_mem h6 e he; exact ⟨by omega, this.2⟩
theorem at_code {n lo : Int} {l : List E} (h : Ris n lo l) (h0 : 0 ≤ lo) {x v : Int} (hv : at_ l x = some v) : 0 ≤ x ∧ x ≤ 1114111 ∧ 0 ≤ v ∧ v < n := by
  induction l generalizing lo with
  | nil => cases hv
  | cons e l ih =>
    obtain ⟨h1, h2, h3, h4, h5, h6⟩ := h
    rw [at_] at hv
    by_cases hc : e.1 ≤ x ∧ x ≤ e.2.1
    · rw [if_pos hc] at hv; cases hv; omega
    · rw [if_neg hc] at hv; exact ih h6 (by omega) hv

theorem use_snoc (n : Int) (l : List E) (e : E) : use n (l ++ [e]) = use n l ++ (if good n (clip e) = true then [clip e] else []) := by
  unfold use; rw [List.map_append, List.filter_append]; congr 1; simp [List.filter_cons]
theorem use_length (n : Int) (l : List E) : (use n l).length ≤ l.length := by
  unfold use; have := List.length_filter_le (good n) (l.map clip); simpa using this
theorem use_mem {n : Int} {l : List E} : ∀ e ∈ use n l, good n e = true ∧ 0 ≤ e.1 ∧ e.2.1 ≤ 1114111 := by
  intro e he
  obtain ⟨h1, h2⟩ := List.mem_filter.1 he
  obtain ⟨a, _, rfl⟩ := List.mem_map.1 h1
  exact ⟨h2, by simp [clip]; omega, by simp [clip]; omega⟩
theorem last_some {l : List E} {x v : Int} (h : last l x = some v) : ∃ e ∈ l, e.1 ≤ x ∧ x ≤ e.2.1 ∧ e.2.2 = v := by
  induction l with
  | nil => cases h
  | cons e l ih =>
    rw [last] at h
    cases hl : last l x with
    | some u =>
      rw [hl] at h
      obtain ⟨e', h1, h2⟩ := ih (by rw [hl]; exact h)
      exact ⟨e', List.mem_cons_of_mem _ h1, h2⟩
    | none =>
      rw [hl] at h
      by_cases hc : e.1 ≤ x ∧ x ≤ e.2.1
      · rw [if_pos hc] at h
        exact ⟨e, List.mem_cons_self, hc.1, hc.2, by simpa using h⟩
      · rw [if_neg hc] at h; cases h
theorem last_use {n : Int} {l : List E} {x v : Int} (h : last (use n l) x = some v) : 0 ≤ x ∧ x ≤ 1114111 ∧ 0 ≤ v ∧ v < n := by
  obtain ⟨e, h1, h2, h3, h4⟩ := last_some h
  obtain ⟨g1, g2, g3⟩ := use_mem e h1
  simp [good] at g1
  omega

/-- One entry t laid over the list: what stands ahead of it, and what stays behind. -/
def step (t : E) : List E → List E × List E
  | [] => ([], [])
  | a :: u =>
    if a.1 ≤ t.2.1 then
      if t.2.1 < a.2.1 then ((if a.1 < t.1 then [(a.1, min a.2.1 (t.1 - 1), a.2.2)] else []), (t.2.1 + 1, a.2.1, a.2.2) :: u)
      else ((if a.1 < t.1 then [(a.1, min a.2.1 (t.1 - 1), a.2.2)] else []) ++ (step t u).1, (step t u).2)
    else ([], a :: u)
/-- The list v laid over u. -/
def over : List E → List E → List E
  | u, [] => u
  | u, t :: v => (step t u).1 ++ t :: over (step t u).2 v
theorem step_past {t a : E} {u : List E} (h : ¬ a.1 ≤ t.2.1) : step t (a :: u) = ([], a :: u) := by rw [step, if_neg h]
theorem step_cut {t a : E} {u : List E} (h : a.1 ≤ t.2.1) (h2 : t.2.1 < a.2.1) : step t (a :: u) = ((if a.1 < t.1 then [(a.1, min a.2.1 (t.1 - 1), a.2.2)] else []), (t.2.1 + 1, a.2.1, a.2.2) :: u) := by rw [step, if_pos h, if_pos h2]
theorem step_on {t a : E} {u : List E} (h : a.1 ≤ t.2.1) (h2 : ¬ t.2.1 < a.2.1) : step t (a :: u) = ((if a.1 < t.1 then [(a.1, min a.2.1 (t.1 - 1), a.2.2)] else []) ++ (step t u).1, (step t u).2) := by rw [step, if_pos h, if_neg h2]

theorem step_good {n : Int} {t : E} (ht : t.1 ≤ t.2.1) : ∀ (u : List E) (lo : Int), Ris n lo u → lo ≤ t.1 →
    (∀ rest, Ris n t.1 rest → Ris n lo ((step t u).1 ++ rest)) ∧ Ris n (t.2.1 + 1) (step t u).2 ∧ (∀ x, x < t.1 → at_ (step t u).1 x = at_ u x) ∧ (∀ x, t.1 ≤ x → at_ (step t u).1 x = none) ∧ (∀ x, t.2.1 < x → at_ (step t u).2 x = at_ u x)
  | [], lo, h, hl => ⟨fun rest hr => ris_mono hr hl, trivial, fun x _ => rfl, fun x _ => rfl, fun x _ => rfl⟩
  | a :: u, lo, h, hl => by
    have h' := h
    obtain ⟨h1, h2, h3, h4, h5, h6⟩ := h
    by_cases c1 : a.1 ≤ t.2.1
    · by_cases c2 : t.2.1 < a.2.1
      · rw [step_cut c1 c2]
        refine ⟨fun rest hr => ?_, ⟨by simp, by simp; omega, h3, h4, h5, h6⟩, fun x hx => ?_, fun x hx => ?_, fun x hx => ?_⟩
        · by_cases c3 : a.1 < t.1
          · rw [if_pos c3]
            exact ⟨h1, by simp only; omega, by simp only; omega, h4, h5, ris_mono hr (by simp only; omega)⟩
          · rw [if_neg c3]; exact ris_mono hr hl
        · by_cases c3 : a.1 < t.1
          · simp only [if_pos c3, at_]
            by_cases c4 : a.1 ≤ x
            · rw [if_pos (by omega), if_pos (by omega)]
            · rw [if_neg (by omega), if_neg (by omega)]; exact (ris_none h6 (by omega)).symm
          · simp only [if_neg c3]
            exact (ris_none (n := n) (l := a :: u) (lo := a.1) ⟨by omega, h2, h3, h4, h5, h6⟩ (by omega)).symm
        · by_cases c3 : a.1 < t.1
          · simp only [if_pos c3, at_]; rw [if_neg (by omega)]
          · simp only [if_neg c3, at_]
        · simp only [at_]
          by_cases c4 : x ≤ a.2.1
          · rw [if_pos (by omega), if_pos (by omega)]
          · rw [if_neg (by omega), if_neg (by omega)]
      · rw [step_on c1 c2]
        obtain ⟨g1, g2, g3, g4, g5⟩ := step_good ht u (min (a.2.1 + 1) t.1) (ris_mono h6 (by omega)) (by omega)
        refine ⟨fun rest hr => ?_, g2, fun x hx => ?_, fun x hx => ?_, fun x hx => ?_⟩
        · by_cases c3 : a.1 < t.1
          · rw [if_pos c3]
            exact ⟨h1, by simp only; omega, by simp only; omega, h4, h5, ris_mono (g1 rest hr) (by simp only; omega)⟩
          · rw [if_neg c3]; exact ris_mono (g1 rest hr) (by omega)
        · rw [at_append, g3 x hx]
          by_cases c3 : a.1 < t.1
          · simp only [if_pos c3, at_]
            by_cases c4 : a.1 ≤ x ∧ x ≤ a.2.1
            · rw [if_pos (by omega), if_pos c4]; rfl
            · rw [if_neg (by omega), if_neg c4]; rfl
          · simp only [if_neg c3, at_]; rw [if_neg (by omega)]; rfl
        · rw [at_append, g4 x hx]
          by_cases c3 : a.1 < t.1
          · simp only [if_pos c3, at_]; rw [if_neg (by omega)]; rfl
          · simp only [if_neg c3, at_]; rfl
        · simp only [at_]; rw [if_neg (by omega)]; exact g5 x hx
    · rw [step_past c1]
      refine ⟨fun rest hr => ris_mono hr hl, ⟨by omega, h2, h3, h4, h5, h6⟩, fun x hx => ?_, fun x hx => rfl, fun x hx => rfl⟩
      exact (ris_none (n := n) (l := a :: u) (lo := a.1) ⟨by omega, h2, h3, h4, h5, h6⟩ (by omega)).symm
theorem over_good {n : Int} : ∀ (v u : List E) (lo : Int), Ris n lo u → Ris n lo v → Ris n lo (over u v) ∧ ∀ x, at_ (over u v) x = (at_ v x).or (at_ u x)
  | [], u, lo, hu, hv => ⟨hu, fun x => by simp [over, at_]⟩
  | t :: v, u, lo, hu, hv => by
    obtain ⟨h1, h2, h3, h4, h5, h6⟩ := hv
    obtain ⟨g1, g2, g3, g4, g5⟩ := step_good h2 u lo hu h1
    obtain ⟨k1, k2⟩ := over_good v (step t u).2 (t.2.1 + 1) g2 h6
    rw [over]
    refine ⟨g1 _ ⟨by omega, h2, h3, h4, h5, k1⟩, fun x => ?_⟩
    rw [at_append, at_, at_, k2 x]
    by_cases c1 : x < t.1
    · rw [if_neg (by omega), if_neg (by omega), g3 x c1, ris_none h6 (by omega), ris_none g2 (by omega)]; simp
    · rw [g4 x (by omega)]
      by_cases c2 : x ≤ t.2.1
      · rw [if_pos (by omega), if_pos (by omega)]; rfl
      · rw [if_neg (by omega), if_neg (by omega), g5 x (by omega)]; rfl

/-- Two entries that touch and have one value are one. -/
theorem join_good {n : Int} : ∀ (i : List E) (lo : Int) (q e : E) (r : List E), Ris n lo (i ++ q :: e :: r) → q.2.1 + 1 = e.1 → q.2.2 = e.2.2 →
    Ris n lo (i ++ (q.1, e.2.1, q.2.2) :: r) ∧ ∀ x, at_ (i ++ (q.1, e.2.1, q.2.2) :: r) x = at_ (i ++ q :: e :: r) x
  | [], lo, q, e, r, h, c1, c2 => by
    obtain ⟨h1, h2, h3, h4, h5, k1, k2, k3, k4, k5, k6⟩ := h
    refine ⟨⟨h1, by simp only; omega, k3, h4, h5, k6⟩, fun x => ?_⟩
    simp only [List.nil_append, at_]
    by_cases t1 : q.1 ≤ x ∧ x ≤ q.2.1
    · rw [if_pos (by omega), if_pos t1]
    · by_cases t2 : e.1 ≤ x ∧ x ≤ e.2.1
      · rw [if_pos (by omega), if_neg t1, if_pos t2, c2]
      · rw [if_neg (by omega), if_neg t1, if_neg t2]
  | a :: i, lo, q, e, r, h, c1, c2 => by
    obtain ⟨h1, h2, h3, h4, h5, h6⟩ := h
    obtain ⟨g1, g2⟩ := join_good i _ q e r h6 c1 c2
    refine ⟨⟨h1, h2, h3, h4, h5, g1⟩, fun x => ?_⟩
    simp only [List.cons_append, at_]; rw [g2 x]

/-- How many entries end ahead of x. -/
def cntH (l : List E) (x : Int) : Nat := (l.filter fun e => decide (e.2.1 < x)).length
theorem cntH_le (l : List E) (x : Int) : cntH l x ≤ l.length := List.length_filter_le _ _
theorem cntH_cons (e : E) (l : List E) (x : Int) : cntH (e :: l) x = (if e.2.1 < x then 1 else 0) + cntH l x := by
  unfold cntH; rw [List.filter_cons]; by_cases h : e.2.1 < x <;> simp [h]; omega
theorem cntH_mono {l : List E} {x y : Int} (h : x ≤ y) : cntH l x ≤ cntH l y := by
  induction l with
  | nil => simp [cntH]
  | cons e l ih => rw [cntH_cons, cntH_cons]; split <;> split <;> omega
theorem cntH_zero {n : Int} : ∀ {l : List E} {lo x : Int}, Ris n lo l → x ≤ lo → cntH l x = 0
  | [], lo, x, _, _ => rfl
  | e :: l, lo, x, h, hx => by
    obtain ⟨h1, h2, h3, h4, h5, h6⟩ := h
    rw [cntH_cons, if_neg (by omega), cntH_zero h6 (by omega)]
theorem cntH_get {n : Int} : ∀ {l : List E} {lo x : Int} {i : Nat} {e : E}, Ris n lo l → l[i]? = some e → (e.2.1 < x ↔ i < cntH l x)
  | [], lo, x, i, e, _, he => by simp at he
  | a :: l, lo, x, 0, e, h, he => by
    obtain ⟨h1, h2, h3, h4, h5, h6⟩ := h
    simp at he; subst he
    rw [cntH_cons]
    by_cases c : a.2.1 < x
    · rw [if_pos c]; constructor <;> intro <;> omega
    · rw [if_neg c, cntH_zero h6 (by omega)]; constructor <;> intro <;> omega
  | a :: l, lo, x, i + 1, e, h, he => by
    obtain ⟨h1, h2, h3, h4, h5, h6⟩ := h
    have he' : l[i]? = some e := by simpa using he
    have g := cntH_get (x := x) h6 he'
    have gm := ris_mem h6 e (List.mem_of_getElem? he')
    rw [cntH_cons]
    by_cases c : a.2.1 < x
    · rw [if_pos c, g]; omega
    · rw [if_neg c, cntH_zero h6 (by omega)]; constructor <;> intro <;> omega
theorem at_cnt {n : Int} : ∀ {l : List E} {lo : Int} (x : Int), Ris n lo l → at_ l x = (match l[cntH l x]? with | none => none | some e => if e.1 ≤ x then some e.2.2 else none)
  | [], lo, x, _ => rfl
  | a :: l, lo, x, h => by
    obtain ⟨h1, h2, h3, h4, h5, h6⟩ := h
    rw [at_, cntH_cons]
    by_cases c : a.2.1 < x
    · rw [if_pos c, if_neg (by omega), at_cnt x h6, Nat.add_comm, List.getElem?_cons_succ]
    · rw [if_neg c, cntH_zero h6 (by omega)]
      simp only [Nat.zero_add, List.getElem?_cons_zero]
      by_cases c2 : a.1 ≤ x
      · rw [if_pos (by omega), if_pos c2]
      · rw [if_neg (by omega), if_neg c2, ris_none h6 (by omega)]
theorem at_none {n : Int} {l : List E} {x : Int} (h : Ris n 0 l) (hc : cntH l x = l.length) : at_ l x = none := by
  rw [at_cnt x h, hc, List.getElem?_eq_none (Nat.le_refl _)]
theorem at_here {n : Int} {l : List E} {x : Int} {e : E} (h : Ris n 0 l) (hc : l[cntH l x]? = some e) : at_ l x = if e.1 ≤ x then some e.2.2 else none := by
  rw [at_cnt x h, hc]

/-- The ranges whose values are told by p. -/
def rngOf (p : Int → Bool) (l : List E) : List R := (l.filter fun e => p e.2.2).map fun e => (e.1, e.2.1)
theorem rngOf_snoc (p : Int → Bool) (l : List E) (e : E) : rngOf p (l ++ [e]) = rngOf p l ++ (if p e.2.2 = true then [(e.1, e.2.1)] else []) := by
  unfold rngOf; rw [List.filter_append, List.map_append]; congr 1; cases h : p e.2.2 <;> simp [h]
theorem rngOf_length (p : Int → Bool) (l : List E) : (rngOf p l).length ≤ l.length := by
  unfold rngOf; rw [List.length_map]; exact List.length_filter_le _ _
theorem has_rngOf {n : Int} (p : Int → Bool) : ∀ {l : List E} {lo : Int} (x : Int), 0 ≤ lo → Ris n lo l → has (rngOf p l) x = (match at_ l x with | some v => p v | none => false)
  | [], lo, x, _, _ => by simp [rngOf, has_nil, at_]
  | a :: l, lo, x, h0, h => by
    obtain ⟨h1, h2, h3, h4, h5, h6⟩ := h
    have ih := has_rngOf p x (by omega) h6
    rw [at_]
    have e1 : rngOf p (a :: l) = (if p a.2.2 = true then [(a.1, a.2.1)] else []) ++ rngOf p l := by
      unfold rngOf; rw [List.filter_cons]; cases h : p a.2.2 <;> simp
    rw [e1, rng.has_append, ih]
    by_cases c : a.1 ≤ x ∧ x ≤ a.2.1
    · rw [if_pos c, ris_none h6 (by omega)]
      simp only [Bool.or_false]
      cases hp : p a.2.2
      · simp [has_nil]
      · simp only [if_true]; rw [has_cons, has_nil, (code_iff x).2 (by omega), (inP_iff _ x).2 (by simp only; omega)]; rfl
    · rw [if_neg c]
      cases hp : p a.2.2
      · simp [has_nil]
      · simp only [if_true]; rw [has_cons, has_nil]
        have : inP (a.1, a.2.1) x = false := by rw [Bool.eq_false_iff]; intro h; exact c ((inP_iff _ x).1 h)
        rw [this]; simp
end Go.Proofs.Ytmglljceklmngaa.tri
