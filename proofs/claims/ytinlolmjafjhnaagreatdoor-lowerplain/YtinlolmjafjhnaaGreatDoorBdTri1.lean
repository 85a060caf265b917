/- Texts that the proof leans on, one behind the other. -/
import Derived.Test.YtinlolmjafjhnaaGreatDoorBdRng1

section
/- Plain mathematics of values of code points (no program): entries, the last one with a code point, lists that rise, one list laid over another. -/
set_option linter.unusedVariables false
set_option linter.unusedSimpArgs false
namespace Go.Proofs.YtinlolmjafjhnaaGreatDoor.tri
open Go.Proofs.YtinlolmjafjhnaaGreatDoor.rng (R code inP has IsSet code_iff inP_iff has_iff has_cons has_nil)

abbrev E := Int × Int × Int
/-- The value of the first entry with x. -/
def at_ : List E → Int → Option Int
 | [], _ => none
 | e :: l, x => if e.1 ≤ x ∧ x ≤ e.2.1 then some e.2.2 else at_ l x
/-- The value of the last entry with x. -/
def last : List E → Int → Option Int
 | [], _ => none
 | e :: l, x => (last l x).or (if e.1 ≤ x ∧ x ≤ e.2.1 then some e.2.2 else none)
/-- Rising from lo on, of code points alone, with values below n. -/
def Ris (n : Int) : Int → List E → Prop
 | _, [] => True
 | lo, e :: l => lo ≤ e.1 ∧ e.1 ≤ e.2.1 ∧ e.2.1 ≤ 1114111 ∧ 0 ≤ e.2.2 ∧ e.2.2 < n ∧ Ris n (e.2.1 + 1) l
/-- Entries that play a part. -/
def clip (e : E) : E := (max e.1 0, min e.2.1 1114111, e.2.2)
def good (n : Int) (e : E) : Bool := decide (e.1 ≤ e.2.1) && decide (0 ≤ e.2.2) && decide (e.2.2 < n)
def use (n : Int) (l : List E) : List E := (l.map clip).filter (good n)

theorem at_append (l m : List E) (x : Int) : at_ (l ++ m) x = (at_ l x).or (at_ m x) := by
 induction l with
 | nil => simp [at_]
 | cons e l ih =>
  rw [List.cons_append, at_, at_]
  by_cases h : e.1 ≤ x ∧ x ≤ e.2.1
  ·rw [if_pos h, if_pos h]; rfl
  ·rw [if_neg h, if_neg h, ih]
theorem last_append (l m : List E) (x : Int) : last (l ++ m) x = (last m x).or (last l x) := by
 induction l with
 | nil => simp [last]
 | cons e l ih => rw [List.cons_append, last, last, ih, Option.or_assoc]
theorem ris_mono {n lo lo' : Int} {l : List E} (h : Ris n lo l) (hl : lo' ≤ lo) : Ris n lo' l := by
 cases l with
 | nil => trivial
 | cons e l => obtain ⟨h1, h2⟩ := h; exact ⟨by omega, h2⟩
theorem ris_none {n : Int} : ∀ {l : List E} {lo x : Int}, Ris n lo l → x < lo → at_ l x = none
 | [], lo, x, _, _ => rfl
 | e :: l, lo, x, h, hx => by
  obtain ⟨h1, h2, h3, h4, h5, h6⟩ := h
  rw [at_, if_neg (by omega)]
  exact ris_none h6 (by omega)
theorem ris_last {n : Int} : ∀ {l : List E} {lo : Int} (x : Int), Ris n lo l → last l x = at_ l x
 | [], lo, x, _ => rfl
 | e :: l, lo, x, h => by
  obtain ⟨h1, h2, h3, h4, h5, h6⟩ := h
  rw [at_, last, ris_last x h6]
  by_cases h : e.1 ≤ x ∧ x ≤ e.2.1
  ·rw [if_pos h, if_pos h, ris_none h6 (by omega)]; rfl
  ·rw [if_neg h, if_neg h]; simp
theorem ris_one {n : Int} {e : E} (h : good n e = true) (h0 : 0 ≤ e.1) (h1 : e.2.1 ≤ 1114111) : Ris n 0 [e] := by
 simp [good] at h
 exact ⟨h0, h.1.1, h1, h.1.2, h.2, trivial⟩
theorem ris_length {n : Int} : ∀ (l : List E) (lo : Int), Ris n lo l → l = [] ∨ lo + l.length ≤ 1114112
 | [], lo, h => .inl rfl
 | e :: l, lo, h => by
  obtain ⟨h1, h2, h3, h4, h5, h6⟩ := h
  right
  rcases ris_length l _ h6 with rfl | h7
  ·simp; omega
  ·simp; omega
theorem ris_len {n : Int} {l : List E} (h : Ris n 0 l) : l.length ≤ 1114112 := by
 rcases ris_length l 0 h with rfl | h
 ·simp
 ·omega
theorem ris_mem {n : Int} : ∀ {l : List E} {lo : Int}, Ris n lo l → ∀ e ∈ l, lo ≤ e.1 ∧ e.1 ≤ e.2.1 ∧ e.2.1 ≤ 1114111 ∧ 0 ≤ e.2.2 ∧ e.2.2 < n
 | [], lo, h, e, he => by cases he
 | a :: l, lo, h, e, he => by
  obtain ⟨h1, h2, h3, h4, h5, h6⟩ := h
  rcases List.mem_cons.1 he with rfl | he
  ·exact ⟨h1, h2, h3, h4, h5⟩
  ·have := ris_mem h6 e he; exact ⟨by omega, this.2⟩
theorem at_code {n lo : Int} {l : List E} (h : Ris n lo l) (h0 : 0 ≤ lo) {x v : Int} (hv : at_ l x = some v) : 0 ≤ x ∧ x ≤ 1114111 ∧ 0 ≤ v ∧ v < n := by
 induction l generalizing lo with
 | nil => cases hv
 | cons e l ih =>
  obtain ⟨h1, h2, h3, h4, h5, h6⟩ := h
  rw [at_] at hv
  by_cases hc : e.1 ≤ x ∧ x ≤ e.2.1
  ·rw [if_pos hc] at hv; cases hv; omega
  ·rw [if_neg hc] at hv; exact ih h6 (by omega) hv

theorem use_snoc (n : Int) (l : List E) (e : E) : use n (l ++ [e]) = use n l ++ (if good n (clip e) = true then [clip e] else []) := by
 unfold use; rw [List.map_append, List.filter_append]; congr 1; simp [List.filter_cons]
theorem use_length (n : Int) (l : List E) : (use n l).length ≤ l.length := by
 unfold use; have := List.length_filter_le (good n) (l.map clip); simpa using this
theorem use_mem {n : Int} {l : List E} : ∀ e ∈ use n l, good n e = true ∧ 0 ≤ e.1 ∧ e.2.1 ≤ 1114111 := by
 intro e he
 obtain ⟨h1, h2⟩ := List.mem_filter.1 he
 obtain ⟨a, _, rfl⟩ := List.mem_map.1 h1
 exact ⟨h2, by simp [clip]; omega, by simp [clip]; omega⟩
/-- One entry t laid over the list: what stands ahead of it, and what stays behind. -/
def step (t : E) : List E → List E × List E
 | [] => ([], [])
 | a :: u =>
  if a.1 ≤ t.2.1 then
   if t.2.1 < a.2.1 then ((if a.1 < t.1 then [(a.1, min a.2.1 (t.1 - 1), a.2.2)] else []), (t.2.1 + 1, a.2.1, a.2.2) :: u)
   else ((if a.1 < t.1 then [(a.1, min a.2.1 (t.1 - 1), a.2.2)] else []) ++ (step t u).1, (step t u).2)
  else ([], a :: u)
/-- The list v laid over u. -/
def over : List E → List E → List E
 | u, [] => u
 | u, t :: v => (step t u).1 ++ t :: over (step t u).2 v
theorem step_past {t a : E} {u : List E} (h : ¬ a.1 ≤ t.2.1) : step t (a :: u) = ([], a :: u) := by rw [step, if_neg h]
theorem step_cut {t a : E} {u : List E} (h : a.1 ≤ t.2.1) (h2 : t.2.1 < a.2.1) : step t (a :: u) = ((if a.1 < t.1 then [(a.1, min a.2.1 (t.1 - 1), a.2.2)] else []), (t.2.1 + 1, a.2.1, a.2.2) :: u) := by rw [step, if_pos h, if_pos h2]
theorem step_on {t a : E} {u : List E} (h : a.1 ≤ t.2.1) (h2 : ¬ t.2.1 < a.2.1) : step t (a :: u) = ((if a.1 < t.1 then [(a.1, min a.2.1 (t.1 - 1), a.2.2)] else []) ++ (step t u).1, (step t u).2) := by rw [step, if_pos h, if_neg h2]

theorem step_good {n : Int} {t : E} (ht : t.1 ≤ t.2.1) : ∀ (u : List E) (lo : Int), Ris n lo u → lo ≤ t.1 →
  (∀ rest, Ris n t.1 rest → Ris n lo ((step t u).1 ++ rest)) ∧ Ris n (t.2.1 + 1) (step t u).2 ∧ (∀ x, x < t.1 → at_ (step t u).1 x = at_ u x) ∧ (∀ x, t.1 ≤ x → at_ (step t u).1 x = none) ∧ (∀ x, t.2.1 < x → at_ (step t u).2 x = at_ u x)
 | [], lo, h, hl => ⟨fun rest hr => ris_mono hr hl, trivial, fun x _ => rfl, fun x _ => rfl, fun x _ => rfl⟩
 | a :: u, lo, h, hl => by
  have h' := h
  obtain ⟨h1, h2, h3, h4, h5, h6⟩ := h
  by_cases c1 : a.1 ≤ t.2.1
  ·by_cases c2 : t.2.1 < a.2.1
   ·rw [step_cut c1 c2]
    refine ⟨fun rest hr => ?_, ⟨by simp, by simp; omega, h3, h4, h5, h6⟩, fun x hx => ?_, fun x hx => ?_, fun x hx => ?_⟩
    ·by_cases c3 : a.1 < t.1
     ·rw [if_pos c3]
      exact ⟨h1, by simp only; omega, by simp only; omega, h4, h5, ris_mono hr (by simp only; omega)⟩
     ·rw [if_neg c3]; exact ris_mono hr hl
    ·by_cases c3 : a.1 < t.1
     ·simp only [if_pos c3, at_]
      by_cases c4 : a.1 ≤ x
      ·rw [if_pos (by omega), if_pos (by omega)]
      ·rw [if_neg (by omega), if_neg (by omega)]; exact (ris_none h6 (by omega)).symm
     ·simp only [if_neg c3]
      exact (ris_none (n := n) (l := a :: u) (lo := a.1) ⟨by omega, h2, h3, h4, h5, h6⟩ (by omega)).symm
    ·by_cases c3 : a.1 < t.1
     ·simp only [if_pos c3, at_]; rw [if_neg (by omega)]
     ·simp only [if_neg c3, at_]
    ·simp only [at_]
     by_cases c4 : x ≤ a.2.1
     ·rw [if_pos (by omega), if_pos (by omega)]
     ·rw [if_neg (by omega), if_neg (by omega)]
   ·rw [step_on c1 c2]
    obtain ⟨g1, g2, g3, g4, g5⟩ := step_good ht u (min (a.2.1 + 1) t.1) (ris_mono h6 (by omega)) (by omega)
    refine ⟨fun rest hr => ?_, g2, fun x hx => ?_, fun x hx => ?_, fun x hx => ?_⟩
    ·by_cases c3 : a.1 < t.1
     ·rw [if_pos c3]
      exact ⟨h1, by simp only; omega, by simp only; omega, h4, h5, ris_mono (g1 rest hr) (by simp only; omega)⟩
     ·rw [if_neg c3]; exact ris_mono (g1 rest hr) (by omega)
    ·rw [at_append, g3 x hx]
     by_cases c3 : a.1 < t.1
     ·simp only [if_pos c3, at_]
      by_cases c4 : a.1 ≤ x ∧ x ≤ a.2.1
      ·rw [if_pos (by omega), if_pos c4]; rfl
      ·rw [if_neg (by omega), if_neg c4]; rfl
     ·simp only [if_neg c3, at_]; rw [if_neg (by omega)]; rfl
    ·rw [at_append, g4 x hx]
     by_cases c3 : a.1 < t.1
     ·simp only [if_pos c3, at_]; rw [if_neg (by omega)]; rfl
     ·simp only [if_neg c3, at_]; rfl
    ·simp only [at_]; rw [if_neg (by omega)]; exact g5 x hx
  ·rw [step_past c1]
   refine ⟨fun rest hr => ris_mono hr hl, ⟨by omega, h2, h3, h4, h5, h6⟩, fun x hx => ?_, fun x hx => rfl, fun x hx => rfl⟩
   exact (ris_none (n := n) (l := a :: u) (lo := a.1) ⟨by omega, h2, h3, h4, h5, h6⟩ (by omega)).symm
theorem over_good {n : Int} : ∀ (v u : List E) (lo : Int), Ris n lo u → Ris n lo v → Ris n lo (over u v) ∧ ∀ x, at_ (over u v) x = (at_ v x).or (at_ u x)
 | [], u, lo, hu, hv => ⟨hu, fun x => by simp [over, at_]⟩
 | t :: v, u, lo, hu, hv => by
  obtain ⟨h1, h2, h3, h4, h5, h6⟩ := hv
  obtain ⟨g1, g2, g3, g4, g5⟩ := step_good h2 u lo hu h1
  obtain ⟨k1, k2⟩ := over_good v (step t u).2 (t.2.1 + 1) g2 h6
  rw [over]
  refine ⟨g1 _ ⟨by omega, h2, h3, h4, h5, k1⟩, fun x => ?_⟩
  rw [at_append, at_, at_, k2 x]
  by_cases c1 : x < t.1
  ·rw [if_neg (by omega), if_neg (by omega), g3 x c1, ris_none h6 (by omega), ris_none g2 (by omega)]; simp
  ·rw [g4 x (by omega)]
   by_cases c2 : x ≤ t.2.1
   ·rw [if_pos (by omega), if_pos (by omega)]; rfl
   ·rw [if_neg (by omega), if_neg (by omega), g5 x (by omega)]; rfl

/-- Two entries that touch and have one value are one. -/
theorem join_good {n : Int} : ∀ (i : List E) (lo : Int) (q e : E) (r : List E), Ris n lo (i ++ q :: e :: r) → q.2.1 + 1 = e.1 → q.2.2 = e.2.2 →
  Ris n lo (i ++ (q.1, e.2.1, q.2.2) :: r) ∧ ∀ x, at_ (i ++ (q.1, e.2.1, q.2.2) :: r) x = at_ (i ++ q :: e :: r) x
 | [], lo, q, e, r, h, c1, c2 => by
  obtain ⟨h1, h2, h3, h4, h5, k1, k2, k3, k4, k5, k6⟩ := h
  refine ⟨⟨h1, by simp only; omega, k3, h4, h5, k6⟩, fun x => ?_⟩
  simp only [List.nil_append, at_]
  by_cases t1 : q.1 ≤ x ∧ x ≤ q.2.1
  ·rw [if_pos (by omega), if_pos t1]
  ·by_cases t2 : e.1 ≤ x ∧ x ≤ e.2.1
   ·rw [if_pos (by omega), if_neg t1, if_pos t2, c2]
   ·rw [if_neg (by omega), if_neg t1, if_neg t2]
 | a :: i, lo, q, e, r, h, c1, c2 => by
  obtain ⟨h1, h2, h3, h4, h5, h6⟩ := h
  obtain ⟨g1, g2⟩ := join_good i _ q e r h6 c1 c2
  refine ⟨⟨h1, h2, h3, h4, h5, g1⟩, fun x => ?_⟩
  simp only [List.cons_append, at_]; rw [g2 x]

/-- How many entries end ahead of x. -/
def cntH (l : List E) (x : Int) : Nat := (l.filter fun e => decide (e.2.1 < x)).length
theorem cntH_le (l : List E) (x : Int) : cntH l x ≤ l.length := List.length_filter_le _ _
theorem cntH_cons (e : E) (l : List E) (x : Int) : cntH (e :: l) x = (if e.2.1 < x then 1 else 0) + cntH l x := by
 unfold cntH; rw [List.filter_cons]; by_cases h : e.2.1 < x <;> simp [h]; omega
theorem cntH_mono {l : List E} {x y : Int} (h : x ≤ y) : cntH l x ≤ cntH l y := by
 induction l with
 | nil => simp [cntH]
 | cons e l ih => rw [cntH_cons, cntH_cons]; split <;> split <;> omega
theorem cntH_zero {n : Int} : ∀ {l : List E} {lo x : Int}, Ris n lo l → x ≤ lo → cntH l x = 0
 | [], lo, x, _, _ => rfl
 | e :: l, lo, x, h, hx => by
  obtain ⟨h1, h2, h3, h4, h5, h6⟩ := h
  rw [cntH_cons, if_neg (by omega), cntH_zero h6 (by omega)]
theorem cntH_get {n : Int} : ∀ {l : List E} {lo x : Int} {i : Nat} {e : E}, Ris n lo l → l[i]? = some e → (e.2.1 < x ↔ i < cntH l x)
 | [], lo, x, i, e, _, he => by simp at he
 | a :: l, lo, x, 0, e, h, he => by
  obtain ⟨h1, h2, h3, h4, h5, h6⟩ := h
  simp at he; subst he
  rw [cntH_cons]
  by_cases c : a.2.1 < x
  ·rw [if_pos c]; constructor <;> intro <;> omega
  ·rw [if_neg c, cntH_zero h6 (by omega)]; constructor <;> intro <;> omega
 | a :: l, lo, x, i + 1, e, h, he => by
  obtain ⟨h1, h2, h3, h4, h5, h6⟩ := h
  have he' : l[i]? = some e := by simpa using he
  have g := cntH_get (x := x) h6 he'
  have gm := ris_mem h6 e (List.mem_of_getElem? he')
  rw [cntH_cons]
  by_cases c : a.2.1 < x
  ·rw [if_pos c, g]; omega
  ·rw [if_neg c, cntH_zero h6 (by omega)]; constructor <;> intro <;> omega
theorem at_cnt {n : Int} : ∀ {l : List E} {lo : Int} (x : Int), Ris n lo l → at_ l x = (match l[cntH l x]? with | none => none | some e => if e.1 ≤ x then some e.2.2 else none)
 | [], lo, x, _ => rfl
 | a :: l, lo, x, h => by
  obtain ⟨h1, h2, h3, h4, h5, h6⟩ := h
  rw [at_, cntH_cons]
  by_cases c : a.2.1 < x
  ·rw [if_pos c, if_neg (by omega), at_cnt x h6, Nat.add_comm, List.getElem?_cons_succ]
  ·rw [if_neg c, cntH_zero h6 (by omega)]
   simp only [Nat.zero_add, List.getElem?_cons_zero]
   by_cases c2 : a.1 ≤ x
   ·rw [if_pos (by omega), if_pos c2]
   ·rw [if_neg (by omega), if_neg c2, ris_none h6 (by omega)]
theorem at_none {n : Int} {l : List E} {x : Int} (h : Ris n 0 l) (hc : cntH l x = l.length) : at_ l x = none := by
 rw [at_cnt x h, hc, List.getElem?_eq_none (Nat.le_refl _)]
theorem at_here {n : Int} {l : List E} {x : Int} {e : E} (h : Ris n 0 l) (hc : l[cntH l x]? = some e) : at_ l x = if e.1 ≤ x then some e.2.2 else none := by
 rw [at_cnt x h, hc]

/-- The ranges whose values are told by p. -/
def rngOf (p : Int → Bool) (l : List E) : List R := (l.filter fun e => p e.2.2).map fun e => (e.1, e.2.1)
theorem rngOf_snoc (p : Int → Bool) (l : List E) (e : E) : rngOf p (l ++ [e]) = rngOf p l ++ (if p e.2.2 = true then [(e.1, e.2.1)] else []) := by
 unfold rngOf; rw [List.filter_append, List.map_append]; congr 1; cases h : p e.2.2 <;> simp [h]
theorem has_rngOf {n : Int} (p : Int → Bool) : ∀ {l : List E} {lo : Int} (x : Int), 0 ≤ lo → Ris n lo l → has (rngOf p l) x = (match at_ l x with | some v => p v | none => false)
 | [], lo, x, _, _ => by simp [rngOf, has_nil, at_]
 | a :: l, lo, x, h0, h => by
  obtain ⟨h1, h2, h3, h4, h5, h6⟩ := h
  have ih := has_rngOf p x (by omega) h6
  rw [at_]
  have e1 : rngOf p (a :: l) = (if p a.2.2 = true then [(a.1, a.2.1)] else []) ++ rngOf p l := by
   unfold rngOf; rw [List.filter_cons]; cases h : p a.2.2 <;> simp
  rw [e1, rng.has_append, ih]
  by_cases c : a.1 ≤ x ∧ x ≤ a.2.1
  ·rw [if_pos c, ris_none h6 (by omega)]
   simp only [Bool.or_false]
   cases hp : p a.2.2
   ·simp [has_nil]
   ·simp only [if_true]; rw [has_cons, has_nil, (code_iff x).2 (by omega), (inP_iff _ x).2 (by simp only; omega)]; rfl
  ·rw [if_neg c]
   cases hp : p a.2.2
   ·simp [has_nil]
   ·simp only [if_true]; rw [has_cons, has_nil]
    have : inP (a.1, a.2.1) x = false := by rw [Bool.eq_false_iff]; intro h; exact c ((inP_iff _ x).1 h)
    rw [this]; simp
end Go.Proofs.YtinlolmjafjhnaaGreatDoor.tri
end

section
/- Lists of entries in memory: rows of the call's own, and rows that are read; what a call may have changed of one row. -/
set_option linter.unusedVariables false
set_option linter.unusedSimpArgs false
namespace Go.Proofs.YtinlolmjafjhnaaGreatDoor.tri
open Go.RowKit
open Go.Proofs.YtinlolmjafjhnaaGreatDoor.rng (ret_int ret_bool below_drewN info_parts own_below')

theorem infoEntry : (Tryz.prog.info? 95).map (fun i => (i.zero, i.size, i.bytes)) = some (some (.agg #[.int .i64 0, .int .i64 0, .int .i64 0]), 3, 24) := by kernel_rfl

theorem getX {α : Type} {l : List α} {n k : Nat} (h : l.length = n) (hk : k < n) : ∃ x, l[k]? = some x := by subst h; exact ⟨_, List.getElem?_eq_getElem hk⟩
theorem get3 {l : List E} {n k : Nat} (h : l.length = n) (hk : k < n) : ∃ x y z, l[k]? = some (x, y, z) := by subst h; exact ⟨_, _, _, List.getElem?_eq_getElem hk⟩
theorem dropX {α : Type} {l : List α} {k : Nat} {x : α} (h : l[k]? = some x) : l.drop k = x :: l.drop (k + 1) := by
 obtain ⟨hk, e⟩ := List.getElem?_eq_some_iff.1 h
 rw [List.drop_eq_getElem_cons hk, e]
theorem takeX {α : Type} {l : List α} {k : Nat} {x : α} (h : l[k]? = some x) : l.take (k + 1) = l.take k ++ [x] := by
 obtain ⟨hk, e⟩ := List.getElem?_eq_some_iff.1 h
 rw [List.take_succ_eq_append_getElem hk, e]
/-- The cells of entries. -/
def flat (l : List E) : List Value := l.flatMap fun p => [.int .i64 p.1, .int .i64 p.2.1, .int .i64 p.2.2]
theorem flat_cons (p : E) (l : List E) : flat (p :: l) = .int .i64 p.1 :: .int .i64 p.2.1 :: .int .i64 p.2.2 :: flat l := rfl
theorem flat_append (l r : List E) : flat (l ++ r) = flat l ++ flat r := by simp [flat]
theorem flat_three (x y z : Int) : flat [(x, y, z)] = [.int .i64 x, .int .i64 y, .int .i64 z] := rfl
theorem flat_length (l : List E) : (flat l).length = l.length * 3 := by
 induction l with
 | nil => rfl
 | cons x l ih => rw [flat_cons]; simp; omega
theorem flat_get : ∀ (l : List E) (i : Nat) (p : E), l[i]? = some p → (flat l)[i * 3]? = some (.int .i64 p.1) ∧ (flat l)[i * 3 + 1]? = some (.int .i64 p.2.1) ∧ (flat l)[i * 3 + 2]? = some (.int .i64 p.2.2)
 | [], i, p, h => by simp at h
 | x :: l, 0, p, h => by simp at h; subst h; exact ⟨rfl, rfl, rfl⟩
 | x :: l, i + 1, p, h => by
  have := flat_get l i p (by simpa using h)
  rw [flat_cons, show (i + 1) * 3 = i * 3 + 1 + 1 + 1 from by omega]
  simpa using this
theorem flat_back : ∀ (l : List E) (j : Nat) (u : Value), (flat l)[j]? = some u → ∃ p, l[j / 3]? = some p ∧ u = (if j % 3 = 0 then .int .i64 p.1 else if j % 3 = 1 then .int .i64 p.2.1 else .int .i64 p.2.2)
 | [], j, u, h => by simp [flat] at h
 | x :: l, 0, u, h => ⟨x, rfl, by rw [flat_cons] at h; simpa using h.symm⟩
 | x :: l, 1, u, h => ⟨x, rfl, by rw [flat_cons] at h; simpa using h.symm⟩
 | x :: l, 2, u, h => ⟨x, rfl, by rw [flat_cons] at h; simpa using h.symm⟩
 | x :: l, j + 3, u, h => by
  rw [flat_cons] at h
  obtain ⟨p, h1, h2⟩ := flat_back l j u (by simpa using h)
  refine ⟨p, ?_, ?_⟩
  ·rw [show (j + 3) / 3 = j / 3 + 1 by omega]; simpa using h1
  ·rw [show (j + 3) % 3 = j % 3 by omega]; exact h2
theorem flat_one (l : List E) : ∀ u ∈ flat l, u.oneCell' = true := by
 intro u hu
 unfold flat at hu
 obtain ⟨q, hq, hu⟩ := List.mem_flatMap.1 hu
 simp only [List.mem_cons, List.mem_nil_iff, or_false] at hu
 rcases hu with rfl | rfl | rfl <;> rfl

/-- The entries l lie in block b from cell off on. -/
def EAt (w : World) (b off : Nat) (l : List E) : Prop := ∀ i p, l[i]? = some p → w.cell? ⟨b, off + i * 3, none⟩ = some (.int .i64 p.1) ∧ w.cell? ⟨b, off + i * 3 + 1, none⟩ = some (.int .i64 p.2.1) ∧ w.cell? ⟨b, off + i * 3 + 2, none⟩ = some (.int .i64 p.2.2)
/-- The entries l can be read from the address on. -/
def EV (w : World) (ao : Option Addr) (l : List E) : Prop := l = [] ∨ ∃ b off, ao = some ⟨b, off, none⟩ ∧ EAt w b off l
theorem EAt.below {w w' : World} {b off : Nat} {l : List E} (h : EAt w b off l) (hb : Below w.heap.size w w') : EAt w' b off l := fun i p hi => by
 obtain ⟨h1, h2, h3⟩ := h i p hi
 exact ⟨(hb.cell (World.block_lt_of_cell? w _ h1)).trans h1, (hb.cell (World.block_lt_of_cell? w _ h2)).trans h2, (hb.cell (World.block_lt_of_cell? w _ h3)).trans h3⟩
theorem EAt.drop {w : World} {b off : Nat} {l : List E} (h : EAt w b off l) (k : Nat) : EAt w b (off + k * 3) (l.drop k) := fun i p hi => by
 rw [List.getElem?_drop] at hi
 have := h (k + i) p hi
 rw [show off + (k + i) * 3 = off + k * 3 + i * 3 by omega] at this
 exact this
theorem EAt.take {w : World} {b off : Nat} {l : List E} (h : EAt w b off l) (k : Nat) : EAt w b off (l.take k) := fun i p hi => h i p (by rw [List.getElem?_take] at hi; split at hi; exact hi; cases hi)
theorem EAt.news {w : World} {b off : Nat} {l : List E} (h : EAt w b off l) : ∀ (j : Nat) u, (flat l)[j]? = some u → w.cell? ((⟨b, off, none⟩ : Addr).add j) = some u := fun j u hj => by
 obtain ⟨p, h1, h2⟩ := flat_back l j u hj
 obtain ⟨c1, c2, c3⟩ := h _ p h1
 rw [Addr.add_lit]
 rcases (show j % 3 = 0 ∨ j % 3 = 1 ∨ j % 3 = 2 by omega) with h | h | h
 ·rw [h] at h2; rw [h2, show off + j = off + j / 3 * 3 by omega]; exact c1
 ·rw [h] at h2; rw [h2, show off + j = off + j / 3 * 3 + 1 by omega]; exact c2
 ·rw [h] at h2; rw [h2, show off + j = off + j / 3 * 3 + 2 by omega]; exact c3
theorem EV.below {w w' : World} {ao : Option Addr} {l : List E} (h : EV w ao l) (hb : Below w.heap.size w w') : EV w' ao l := by
 rcases h with h | ⟨b, off, rfl, h⟩
 ·exact .inl h
 ·exact .inr ⟨b, off, rfl, h.below hb⟩
theorem EV.some {w : World} {ao : Option Addr} {l : List E} (h : EV w ao l) (h0 : 0 < l.length) : ∃ b off, ao = some ⟨b, off, none⟩ ∧ EAt w b off l := by
 rcases h with rfl | h
 ·simp at h0
 ·exact h
/-- v is a row of the call's own, of entries l. -/
def Own (w : World) (base : Nat) (v : Value) (l : List E) : Prop := w.ownsRow base 95 3 v l.length (flat l)
theorem Own.view {w : World} {B : Nat} {v : Value} {l : List E} (h : Own w B v l) : ∃ ao cap, v = .slice ao l.length cap ∧ EV w ao l ∧ l.length ≤ cap ∧ cap ≤ maxLen ∧ (ao = none → cap = 0) := by
 rcases h.2 with ⟨rfl, h0⟩ | ⟨g, cap, cur, rfl, hg, hgg, hc, hm, hs, ht⟩
 ·exact ⟨none, 0, by rw [h0], .inl (List.eq_nil_of_length_eq_zero h0), by omega, by unfold maxLen; omega, fun _ => rfl⟩
 ·refine ⟨_, cap, rfl, .inr ⟨g, 0, rfl, fun i p hi => ?_⟩, hc, hm, fun e => by cases e⟩
  obtain ⟨e1, e2, e3⟩ := flat_get l i p hi
  have hil : i < l.length := (List.getElem?_eq_some_iff.1 hi).1
  have h' : w.ownsRow B 95 3 (.slice (some ⟨g, 0, none⟩) l.length cap) l.length (flat l) := h
  rw [Nat.zero_add]
  exact ⟨(h'.cellAt _ (by omega)).trans e1, (h'.cellAt _ (by omega)).trans e2, (h'.cellAt _ (by omega)).trans e3⟩
theorem Own.at {w : World} {B g c n : Nat} {l : List E} (h : Own w B (.slice (some ⟨g, 0, none⟩) n c) l) : EAt w g 0 l ∧ B ≤ g ∧ g < w.heap.size ∧ ∀ i, w.frozen? ⟨g, i, none⟩ = false := by
 rcases h.2 with ⟨h0, _⟩ | ⟨g', cap', cur, hv, hg, hgg, hc, hm, hs, ht⟩
 ·cases h0
 cases hv
 have h' : w.ownsRow B 95 3 (.slice (some ⟨g, 0, none⟩) l.length c) l.length (flat l) := h
 refine ⟨fun i p hi => ?_, hg, (Array.getElem?_eq_some_iff.1 hgg).1, fun i => h'.frozenAt i⟩
 obtain ⟨e1, e2, e3⟩ := flat_get l i p hi
 have hil : i < l.length := (List.getElem?_eq_some_iff.1 hi).1
 rw [Nat.zero_add]
 exact ⟨(h'.cellAt _ (by omega)).trans e1, (h'.cellAt _ (by omega)).trans e2, (h'.cellAt _ (by omega)).trans e3⟩

/-- From w to w' only cells lo to hi of block g, and new blocks, have changed. -/
structure Mut (w w' : World) (g lo hi : Nat) : Prop where
 os : w'.os = w.os
 tape : w'.tape = w.tape
 output : w'.output = w.output
 size : w.heap.size ≤ w'.heap.size
 block : ∀ k, k < w.heap.size → k ≠ g → w'.heap[k]? = w.heap[k]?
 cell : ∀ i, i < lo ∨ hi ≤ i → w'.cell? ⟨g, i, none⟩ = w.cell? ⟨g, i, none⟩
 frozen : ∀ i, w'.frozen? ⟨g, i, none⟩ = w.frozen? ⟨g, i, none⟩
theorem Mut.refl (w : World) (g lo hi : Nat) : Mut w w g lo hi := ⟨rfl, rfl, rfl, Nat.le_refl _, fun _ _ _ => rfl, fun _ _ => rfl, fun _ => rfl⟩
theorem Mut.trans {a b c : World} {g lo hi : Nat} (h : Mut a b g lo hi) (k : Mut b c g lo hi) : Mut a c g lo hi :=
 ⟨k.os.trans h.os, k.tape.trans h.tape, k.output.trans h.output, Nat.le_trans h.size k.size, fun i hi hg => (k.block i (Nat.lt_of_lt_of_le hi h.size) hg).trans (h.block i hi hg), fun i hi => (k.cell i hi).trans (h.cell i hi), fun i => (k.frozen i).trans (h.frozen i)⟩
theorem Mut.wide {a b : World} {g lo hi lo' hi' : Nat} (h : Mut a b g lo hi) (h1 : lo' ≤ lo) (h2 : hi ≤ hi') : Mut a b g lo' hi' :=
 ⟨h.os, h.tape, h.output, h.size, h.block, fun i hi => h.cell i (by omega), h.frozen⟩
theorem Mut.then {a b c : World} {g lo hi : Nat} (h : Mut a b g lo hi) (hg : g < a.heap.size) (k : Below a.heap.size b c) : Mut a c g lo hi :=
 ⟨k.os.trans h.os, k.tape.trans h.tape, k.output.trans h.output, Nat.le_trans h.size k.size, fun i hi hg => (k.block i hi).trans (h.block i hi hg), fun i hi => (World.cell?_of_block (k.block g hg)).trans (h.cell i hi), fun i => (World.frozen?_of_block (k.block g hg)).trans (h.frozen i)⟩
theorem Mut.alloc {a b : World} {g lo hi : Nat} (h : Mut a b g lo hi) (hg : g < a.heap.size) (o : Obj) : Mut a (b.alloc o) g lo hi :=
 h.then hg ((Below.refl _ _).alloc h.size o)
theorem Mut.drewN {a b : World} {g lo hi : Nat} (h : Mut a b g lo hi) (q : Nat) : Mut a (b.drewN q) g lo hi := ⟨h.os, h.tape, h.output, h.size, h.block, h.cell, h.frozen⟩
theorem Mut.grown {a b c : World} {g lo hi : Nat} {row : Option Nat} (h : Mut a b g lo hi) (hg : g < a.heap.size) (k : b.grownBy c row) (hr : ∀ j, row = some j → a.heap.size ≤ j) : Mut a c g lo hi :=
 h.then hg ((Below.refl _ b).grown k h.size hr)
theorem cell_set_ne (w : World) (b i j : Nat) (u : Value) (h : i ≠ j) : (w.setCell ⟨b, i, none⟩ u).cell? ⟨b, j, none⟩ = w.cell? ⟨b, j, none⟩ := by
 simp only [World.cell?, World.setCell, Array.getElem?_modify, if_true]
 cases hb : w.heap[b]? with
 | none => simp
 | some o =>
  cases o with
  | cells c t f => simp [Array.getElem?_setIfInBounds, h]
  | _ => simp
theorem frozen_set (w : World) (b i j : Nat) (u : Value) : (w.setCell ⟨b, i, none⟩ u).frozen? ⟨b, j, none⟩ = w.frozen? ⟨b, j, none⟩ := by
 simp only [World.frozen?, World.setCell, Array.getElem?_modify, if_true]
 cases hb : w.heap[b]? with
 | none => simp
 | some o =>
  cases o with
  | cells c t f => simp
  | _ => simp
theorem cell_set_eq (w : World) (b i : Nat) (u v : Value) (h : w.cell? ⟨b, i, none⟩ = some v) : (w.setCell ⟨b, i, none⟩ u).cell? ⟨b, i, none⟩ = some u := by
 simp only [World.cell?, World.setCell, Array.getElem?_modify, if_true] at *
 cases hb : w.heap[b]? with
 | none => rw [hb] at h; cases h
 | some o =>
  rw [hb] at h
  cases o with
  | cells c t f =>
   simp at h ⊢
   obtain ⟨h1, _⟩ := Array.getElem?_eq_some_iff.1 h
   rw [Array.getElem?_setIfInBounds, if_pos rfl, if_pos h1]
  | _ => simp at h
theorem Mut.setCell {a b : World} {g lo hi i : Nat} (h : Mut a b g lo hi) (h1 : lo ≤ i) (h2 : i < hi) (u : Value) : Mut a (b.setCell ⟨g, i, none⟩ u) g lo hi :=
 h.trans ⟨rfl, rfl, rfl, by simp [World.setCell], fun k _ hk => Below.heap_setCell _ _ _ _ hk, fun j hj => cell_set_ne _ _ _ _ _ (by omega), fun j => frozen_set _ _ _ _ _⟩
theorem Mut.below {w w' : World} {g lo hi B : Nat} (h : Mut w w' g lo hi) (hB : B ≤ w.heap.size) (hg : B ≤ g) : Below B w w' :=
 ⟨h.os, h.tape, h.output, h.size, fun k hk => h.block k (by omega) (by omega)⟩
/-- Entries elsewhere stay. -/
theorem EAt.mut {w w' : World} {g lo hi b off : Nat} {l : List E} (h : EAt w b off l) (m : Mut w w' g lo hi) (hd : b ≠ g ∨ off + l.length * 3 ≤ lo ∨ hi ≤ off) : EAt w' b off l := fun i p hp => by
 obtain ⟨h1, h2, h3⟩ := h i p hp
 have hil : i < l.length := (List.getElem?_eq_some_iff.1 hp).1
 have lt : b < w.heap.size := World.block_lt_of_cell? w _ h1
 by_cases e : b = g
 ·subst e
  refine ⟨(m.cell _ (by omega)).trans h1, (m.cell _ (by omega)).trans h2, (m.cell _ (by omega)).trans h3⟩
 ·have hb := m.block b lt e
  exact ⟨(World.cell?_of_block (a := ⟨b, _, none⟩) hb).trans h1, (World.cell?_of_block (a := ⟨b, _, none⟩) hb).trans h2, (World.cell?_of_block (a := ⟨b, _, none⟩) hb).trans h3⟩
theorem frozen_mut {w w' : World} {g lo hi b : Nat} (m : Mut w w' g lo hi) (hb : b < w.heap.size) (h : ∀ i, w.frozen? ⟨b, i, none⟩ = false) : ∀ i, w'.frozen? ⟨b, i, none⟩ = false := fun i => by
 by_cases e : b = g
 ·subst e; rw [m.frozen i]; exact h i
 ·rw [World.frozen?_of_block (a := ⟨b, i, none⟩) (m.block b hb e)]; exact h i
/-- The first entry's Lo is set. -/
theorem EAt.setLo {w : World} {b off : Nat} {x y z x' : Int} {l : List E} (h : EAt w b off ((x, y, z) :: l)) : EAt (w.setCell ⟨b, off, none⟩ (.int .i64 x')) b off ((x', y, z) :: l) := fun i p hp => by
 match i, hp with
 | 0, hp =>
  obtain ⟨h1, h2, h3⟩ := h 0 (x, y, z) rfl
  simp at hp; subst hp
  simp only [Nat.zero_mul, Nat.add_zero] at *
  exact ⟨cell_set_eq _ _ _ _ _ h1, (cell_set_ne _ _ _ _ _ (by omega)).trans h2, (cell_set_ne _ _ _ _ _ (by omega)).trans h3⟩
 | i + 1, hp =>
  obtain ⟨h1, h2, h3⟩ := h (i + 1) p (by simpa using hp)
  exact ⟨(cell_set_ne _ _ _ _ _ (by omega)).trans h1, (cell_set_ne _ _ _ _ _ (by omega)).trans h2, (cell_set_ne _ _ _ _ _ (by omega)).trans h3⟩

theorem one_new (w : World) (x y z : Value) (t : TypeId) : ∀ (j : Nat) (u : Value), [x, y, z][j]? = some u → (w.alloc (Obj.cells #[x, y, z] t)).cell? ((⟨w.heap.size, 0, none⟩ : Addr).add j) = some u := by
 intro j u hj
 match j, hj with
 | 0, hj => simp at hj; subst hj; simp [Addr.add]
 | 1, hj => simp at hj; subst hj; simp [Addr.add]
 | 2, hj => simp at hj; subst hj; simp [Addr.add]
 | k + 3, hj => simp at hj
theorem two_new (w : World) (o : Obj) (x y z : Value) (t : TypeId) : ∀ (j : Nat) (u : Value), [x, y, z][j]? = some u → ((w.alloc o).alloc (Obj.cells #[x, y, z] t)).cell? ((⟨w.heap.size + 1, 0, none⟩ : Addr).add j) = some u := by
 have := one_new (w.alloc o) x y z t
 simpa using this
end Go.Proofs.YtinlolmjafjhnaaGreatDoor.tri
end

section
/- What trie.usable and the document's Entries answer: the entries that play a part; what the document's Get answers: the last one's value. -/
set_option linter.unusedVariables false
set_option linter.unusedSimpArgs false
namespace Go.Proofs.YtinlolmjafjhnaaGreatDoor.tri
open Go.RowKit
open Go.Proofs.YtinlolmjafjhnaaGreatDoor.rng (ret_int ret_bool below_drewN info_parts own_below')

theorem good_iff (n : Int) (x y z : Int) : good n (clip (x, y, z)) = true ↔ max x 0 ≤ min y 1114111 ∧ 0 ≤ z ∧ z < n := by
 unfold good
 rw [Bool.and_eq_true, Bool.and_eq_true]
 exact ⟨fun h => ⟨of_decide_eq_true h.1.1, of_decide_eq_true h.1.2, of_decide_eq_true h.2⟩, fun h => ⟨⟨decide_eq_true h.1, decide_eq_true h.2.1⟩, decide_eq_true h.2.2⟩⟩

set_option maxHeartbeats 1000000 in
theorem use_any (ao : Option Addr) (cap : Nat) (l : List E) (nv : Int) (w : World) (hn : l.length ≤ 1000000) (hv : EV w ao l) :
  Calls Tryz.prog 82 #[.slice ao l.length cap, .int .i64 nv] w fun e w' => ∃ g c, e = .returned (.slice (some ⟨g, 0, none⟩) (use nv l).length c) ∧ Own w' w.heap.size (.slice (some ⟨g, 0, none⟩) (use nv l).length c) (use nv l) ∧ Below w.heap.size w w' := by
 obtain ⟨i0, hi, hz0, hz1, hz2⟩ := info_parts infoEntry
 have HV : Hid (EV w ao l) := hv
 obtain ⟨n, hl⟩ : ∃ n, l.length = n := ⟨_, rfl⟩
 rw [hl] at hn ⊢
 have HL : Hid (l.length = n) := hl
 clear hv hl
 obtain ⟨w1, hmk, hown1, hg1⟩ := run_make_own (P := Tryz.prog) w w.heap.size 96 95 i0 _ 3 Tryz.underlying96 hi hz0 hz1 .i64 .i64 n (by rw [hz2]; omega) (by unfold maxLen; omega) (Nat.le_refl _)
 have hb1 := (Below.refl w.heap.size w).grown hg1 (Nat.le_refl _) (fun k e => by cases e)
 have HO1 : Hid (w1.ownsRow w.heap.size 95 3 (.slice (some ⟨w.heap.size, 0, none⟩) 0 n) 0 []) := hown1
 clear hown1 hg1
 go_enter Tryz.func82, Tryz.ntmps82
 go_wp2
 go_loopw [5, 13] (fun v i wr => ∃ (k : Nat) (s : List E), k ≤ n ∧ i = .int .i64 k ∧ s.length ≤ k ∧ Hid (s = use nv (l.take k)) ∧ Hid (∃ g c, v = .slice (some ⟨g, 0, none⟩) s.length c) ∧ wr.ownsRow w.heap.size 95 3 v s.length (flat s) ∧ Below w.heap.size w wr) (fun _ i _ => n - (intOf i).toNat)
 case atStart => exact ⟨0, [], Nat.zero_le _, rfl, Nat.le_refl _, rfl, ⟨_, _, rfl⟩, HO1, hb1⟩
 case round =>
  obtain ⟨k, s, hk, rfl, hsk, HS, HF, hown, hbel⟩ := hrel
  clear hmk HO1 hb1
  have hs1 := hbel.size
  by_cases hlt : k < n
  ·obtain ⟨x, y, z, hp⟩ := get3 HL.out hlt
   obtain ⟨b, off, rfl, hc⟩ := (HV.out.below hbel).some (by have := HL.out; omega)
   obtain ⟨c1, c2, c3⟩ := hc k (x, y, z) hp
   simp only at c1 c2 c3
   obtain ⟨p, hpx⟩ : ∃ p : Int, (if x < 0 then (0 : Int) else x) = p := ⟨_, rfl⟩
   obtain ⟨q, hqy⟩ : ∃ q : Int, (if 1114111 < y then (1114111 : Int) else y) = q := ⟨_, rfl⟩
   have hpm : max x 0 = p := by rw [← hpx]; split <;> omega
   have hqm : min y 1114111 = q := by rw [← hqy]; split <;> omega
   have HN : Hid (use nv (l.take (k + 1)) = use nv (l.take k) ++ (if good nv (clip (x, y, z)) = true then [(p, q, z)] else [])) := by
    unfold Hid; rw [takeX hp, use_snoc, ← hpm, ← hqm]; rfl
   have HG : Hid (good nv (clip (x, y, z)) = true ↔ p ≤ q ∧ 0 ≤ z ∧ z < nv) := by unfold Hid; rw [good_iff, hpm, hqm]
   clear hc hp hpm hqm
   have R1 := hown.alloc (.cells #[.int .i64 p, .int .i64 q, .int .i64 z] 95)
   have R2 := hbel.alloc hs1 (.cells #[.int .i64 p, .int .i64 q, .int .i64 z] 95)
   have no : good nv (clip (x, y, z)) ≠ true → Hid (s = use nv (l.take (k + 1))) := fun h => by
    unfold Hid; rw [HN.out, if_neg h, List.append_nil, ← HS.out]
   have HNO : Hid (good nv (clip (x, y, z)) ≠ true → Hid (s = use nv (l.take (k + 1)))) := no
   clear no
   by_cases t1 : p ≤ q
   ·by_cases t2 : 0 ≤ z
    ·by_cases t3 : z < nv
     ·have HE : Hid (s ++ [(p, q, z)] = use nv (l.take (k + 1))) := by
       unfold Hid; rw [HN.out, if_pos (HG.out.2 ⟨t1, t2, t3⟩), ← HS.out]
      have HW : Hid (∀ j, u5.ownBlock = some j → w.heap.size ≤ j) := fun j e => (hown.lt _ e).1
      clear HN HS HNO R1 R2
      go_wp2_with (at_builtin; refine wpList_append_own _ rfl _ _ 96 rfl w.heap.size 95 i0 (.agg #[.int .i64 0, .int .i64 0, .int .i64 0]) 3 24 Tryz.underlying96 hi hz0 hz1 hz2 rfl (by decide) _ _ _ rfl ((hown.alloc _).alloc _) ⟨wr.heap.size + 1, 0, none⟩ 1 1 [.int .i64 p, .int .i64 q, .int .i64 z] rfl rfl ?c1 ?c2 ?c3 ?c4 ?c5 ?_)
      case c1 => exact two_new wr _ _ _ _ _
      case c2 => intro u hu; simp at hu; rcases hu with rfl | rfl | rfl <;> rfl
      case c3 => unfold maxLen; omega
      case c4 => omega
      case c5 => simp; omega
      ·intro v' w2 hown2 hgrow _
       have R2 := Below.grown ((hbel.alloc hs1 (.cells #[.int .i64 p, .int .i64 q, .int .i64 z] 95)).alloc (by simp; omega) (.cells #[.int .i64 p, .int .i64 q, .int .i64 z] 95)) hgrow (by simp; omega) HW.out
       have R1 : w2.ownsRow w.heap.size 95 3 v' (s ++ [(p, q, z)]).length (flat (s ++ [(p, q, z)])) := by
        rw [flat_append, flat_three, List.length_append]; exact hown2
       have R3 : Hid (∃ g c, v' = .slice (some ⟨g, 0, none⟩) (s ++ [(p, q, z)]).length c) := by
        rcases R1.2 with ⟨_, h0⟩ | ⟨g, c, _, e, _⟩
        ·simp at h0
        ·exact ⟨g, c, e⟩
       clear hown2 hgrow hown hbel
       go_wp2
       go_roundw
       case rel => exact ⟨k + 1, s ++ [(p, q, z)], by omega, by go_num, by simp; omega, HE, R3, R1, R2⟩
       case measure => simp [intOf]; omega
     ·have HE : Hid (s = use nv (l.take (k + 1))) := HNO.out (fun h => t3 (HG.out.1 h).2.2)
      clear HN HS HNO
      go_wp2
      go_roundw
      case rel => exact ⟨k + 1, s, by omega, by go_num, by omega, HE, HF, R1, R2⟩
      case measure => simp [intOf]; omega
    ·have HE : Hid (s = use nv (l.take (k + 1))) := HNO.out (fun h => t2 (HG.out.1 h).2.1)
     clear HN HS HNO
     go_wp2
     go_roundw
     case rel => exact ⟨k + 1, s, by omega, by go_num, by omega, HE, HF, R1, R2⟩
     case measure => simp [intOf]; omega
   ·have HE : Hid (s = use nv (l.take (k + 1))) := HNO.out (fun h => t1 (HG.out.1 h).1)
    clear HN HS HNO
    go_wp2
    go_roundw
    case rel => exact ⟨k + 1, s, by omega, by go_num, by omega, HE, HF, R1, R2⟩
    case measure => simp [intOf]; omega
  ·have HU : Hid (s = use nv l) := by
    unfold Hid; rw [HS.out, List.take_of_length_le (by have := HL.out; omega)]
   obtain ⟨g, c, rfl⟩ := HF.out
   have HO : Hid (wr.ownsRow w.heap.size 95 3 (.slice (some ⟨g, 0, none⟩) s.length c) s.length (flat s)) := hown
   clear HS HF hown
   have HB : Hid (Below w.heap.size w wr) := hbel
   generalize hm : s.length = m at *
   have HM : Hid (s.length = m) := hm
   clear hm hbel
   go_wp2
   go_ret
   have e : (use nv l).length = m := by rw [← HU.out, HM.out]
   rw [e]
   exact ⟨g, c, rfl, by unfold Own; rw [e, ← HU.out]; exact HO.out, HB.out⟩

/-- The place that the document's Get tells. -/
def place (o : Option Int) : Int := o.getD (-1)
end Go.Proofs.YtinlolmjafjhnaaGreatDoor.tri
end
