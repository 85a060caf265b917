/- Texts that the proof leans on, one behind the other. -/
import Derived.Test.YtochajmhljipbaaGreatDoorBdPrp7
import Derived.Test.YtochajmhljipbaaGreatDoorBdRng1
import Derived.Test.YtochajmhljipbaaGreatDoorBdPrp9
import Derived.Test.YtochajmhljipbaaGreatDoorBdRng6

section
/- Folding, plainly: what a code point folds to, and the closure of a set. -/
set_option linter.unusedVariables false
set_option linter.unusedSimpArgs false
namespace Go.Proofs.YtochajmhljipbaaGreatDoor.fld
open Go.Proofs.YtochajmhljipbaaGreatDoor.prp (folL inR foldF foldF_first firstF takesB headAdd rcp RL)
open Go.Proofs.YtochajmhljipbaaGreatDoor.rng (R has IsSet code CanF inP tot cn)

/-- A code point's simple folding. -/
def sim (r : Int) : Int := (foldF false r).headD 0
def toldB (r : Int) : Bool := folL.any (fun x => inR x r)
def span (a b : Int) : List Int := (List.range (b + 1 - a).toNat).map (fun (i : Nat) => a + (i : Int))
theorem mem_span (a b x : Int) : x ∈ span a b ↔ a ≤ x ∧ x ≤ b := by
  unfold span
  rw [List.mem_map]
  constructor
  · rintro ⟨i, hi, rfl⟩
    have := List.mem_range.1 hi
    omega
  · rintro ⟨h1, h2⟩
    exact ⟨(x - a).toNat, List.mem_range.2 (by omega), by omega⟩
theorem span_len (a b : Int) : (span a b).length = (b + 1 - a).toNat := by unfold span; rw [List.length_map, List.length_range]
theorem span_snoc {a p : Int} (h : a ≤ p) : span a p = span a (p - 1) ++ [p] := by
  unfold span
  rw [show (p + 1 - a).toNat = (p - 1 + 1 - a).toNat + 1 by omega, List.range_succ, List.map_append, List.map_cons, List.map_nil, show a + (((p - 1 + 1 - a).toNat : Nat) : Int) = p by omega]
theorem span_nil (a : Int) : span a (a - 1) = [] := by
  unfold span
  rw [show (a - 1 + 1 - a).toNat = 0 by omega]
  rfl
def tpts : List Int := folL.flatMap (fun x => span x.1 x.2.1)
theorem inR_iff (x : RL) (r : Int) : inR x r = true ↔ x.1 ≤ r ∧ r ≤ x.2.1 := by unfold inR; rw [Bool.and_eq_true, decide_eq_true_eq, decide_eq_true_eq]
theorem told_iff (r : Int) : toldB r = true ↔ r ∈ tpts := by
  unfold toldB tpts
  rw [List.any_eq_true, List.mem_flatMap]
  constructor
  · rintro ⟨x, hx, h⟩
    exact ⟨x, hx, (mem_span _ _ _).2 ((inR_iff _ _).1 h)⟩
  · rintro ⟨x, hx, h⟩
    exact ⟨x, hx, (inR_iff _ _).2 ((mem_span _ _ _).1 h)⟩
theorem untold {r : Int} (full : Bool) (h : toldB r = false) : foldF full r = [r] := by
  rw [foldF_first]
  have : firstF full folL r = none := by
    unfold firstF
    rw [List.find?_eq_none]
    intro x hx hh
    rw [Bool.and_eq_true] at hh
    have : toldB r = true := by unfold toldB; rw [List.any_eq_true]; exact ⟨x, hx, hh.2⟩
    rw [h] at this
    cases this
  rw [this]
  rfl
theorem sim_untold {r : Int} (h : toldB r = false) : sim r = r := by unfold sim; rw [untold false h]; rfl
def good (r : Int) : Bool := (foldF true r).all (fun x => foldF true x == [x]) && decide (0 < (foldF true r).length) && (foldF false r == [sim r]) && (sim (sim r) == sim r) && code (sim r) && code r
set_option maxRecDepth 1000000 in
theorem tp_good : tpts.all good = true := by decide +kernel
theorem told_good {r : Int} (h : toldB r = true) : good r = true := List.all_eq_true.1 tp_good r ((told_iff r).1 h)
theorem fold_one (r : Int) : foldF false r = [sim r] := by
  cases h : toldB r
  · rw [untold false h, sim_untold h]
  · have := told_good h
    unfold good at this
    simp only [Bool.and_eq_true, beq_iff_eq] at this
    exact this.1.1.1.2
theorem sim_sim (r : Int) : sim (sim r) = sim r := by
  cases h : toldB r
  · rw [sim_untold h, sim_untold h]
  · have := told_good h
    unfold good at this
    simp only [Bool.and_eq_true, beq_iff_eq] at this
    exact this.1.1.2
theorem full_settles (r : Int) : (∀ x ∈ foldF true r, foldF true x = [x]) ∧ 0 < (foldF true r).length := by
  cases h : toldB r
  · rw [untold true h]
    exact ⟨fun x hx => by rw [List.mem_singleton.1 hx]; exact untold true h, Nat.zero_lt_one⟩
  · have := told_good h
    unfold good at this
    simp only [Bool.and_eq_true, beq_iff_eq, List.all_eq_true, decide_eq_true_eq] at this
    exact ⟨this.1.1.1.1.1, this.1.1.1.1.2⟩
theorem told_code {r : Int} (h : toldB r = true) : code r = true ∧ code (sim r) = true := by
  have := told_good h
  unfold good at this
  simp only [Bool.and_eq_true] at this
  exact ⟨this.2, this.1.2⟩
theorem sim_code {r : Int} (h : code r = true) : code (sim r) = true := by
  cases t : toldB r
  · rw [sim_untold t]; exact h
  · exact (told_code t).2

/-- r is the set of all code points that fold as one of a does. -/
def IsClo (r a : List R) : Prop := CanF 0 r ∧ ∀ x, code x = true → (has r x = true ↔ ∃ y, has a y = true ∧ sim y = sim x)
theorem IsClo.eq {r s a b : List R} (h1 : IsClo r a) (h2 : IsClo s b) (h : ∀ x, code x = true → ((∃ y, has a y = true ∧ sim y = sim x) ↔ ∃ y, has b y = true ∧ sim y = sim x)) : r = s := by
  refine rng.can_ext r s 0 (Int.le_refl _) h1.1 h2.1 (fun x => ?_)
  cases hc : code x
  · simp [has, hc]
  · rw [Bool.eq_iff_iff, h1.2 x hc, h2.2 x hc, h x hc]
theorem IsClo.twice {c d a : List R} (h1 : IsClo c a) (h2 : IsClo d c) : d = c := by
  refine h2.eq h1 (fun x hx => ⟨?_, ?_⟩)
  · rintro ⟨y, hy, e⟩
    obtain ⟨z, hz, e2⟩ := (h1.2 y (rng.has_code hy)).1 hy
    exact ⟨z, hz, e2.trans e⟩
  · rintro ⟨z, hz, e⟩
    exact ⟨z, (h1.2 z (rng.has_code hz)).2 ⟨z, hz, rfl⟩, e⟩
theorem IsClo.all {c a : List R} (h : IsClo c a) {x : Int} (hx : has a x = true) : has c x = true := (h.2 x (rng.has_code hx)).2 ⟨x, hx, rfl⟩

/-- The code points of a list of ranges, one by one. -/
def ptsL (l : List R) : List Int := l.flatMap (fun p => span p.1 p.2)
theorem mem_pts (l : List R) (x : Int) : x ∈ ptsL l ↔ ∃ p ∈ l, p.1 ≤ x ∧ x ≤ p.2 := by
  unfold ptsL
  rw [List.mem_flatMap]
  constructor
  · rintro ⟨p, hp, h⟩; exact ⟨p, hp, (mem_span _ _ _).1 h⟩
  · rintro ⟨p, hp, h⟩; exact ⟨p, hp, (mem_span _ _ _).2 h⟩
theorem can_in : ∀ {l : List R} {lo : Int}, 0 ≤ lo → CanF lo l → ∀ p ∈ l, 0 ≤ p.1 ∧ p.1 ≤ p.2 ∧ p.2 ≤ 1114111
  | [], _, _, _, p, hp => by cases hp
  | q :: l, lo, h0, h, p, hp => by
    obtain ⟨h1, h2, h3, h4⟩ := h
    rcases List.mem_cons.1 hp with rfl | hp
    · omega
    · exact can_in (by omega) h4 p hp
theorem can_pts {l : List R} (h : CanF 0 l) (x : Int) : x ∈ ptsL l ↔ has l x = true := by
  rw [mem_pts, rng.has_iff, rng.code_iff]
  constructor
  · rintro ⟨p, hp, h1, h2⟩
    have := can_in (Int.le_refl 0) h p hp
    exact ⟨by omega, p, hp, h1, h2⟩
  · rintro ⟨_, h⟩; exact h
theorem pts_tot : ∀ {l : List R} {lo : Int}, CanF lo l → ((ptsL l).length : Int) = tot l
  | [], _, _ => rfl
  | p :: l, lo, h => by
    obtain ⟨h1, h2, h3, h4⟩ := h
    have := pts_tot h4
    unfold ptsL at *
    rw [List.flatMap_cons, List.length_append, span_len, rng.tot_cons]
    omega
theorem can_len : ∀ {l : List R} {lo : Int}, lo ≤ 1114113 → CanF lo l → 2 * (l.length : Int) ≤ 1114113 - lo
  | [], lo, h, _ => by simp; omega
  | p :: l, lo, h, hc => by
    obtain ⟨h1, h2, h3, h4⟩ := hc
    have := can_len (by omega) h4
    rw [List.length_cons]
    omega
theorem can_len0 {l : List R} (h : CanF 0 l) : l.length ≤ 557056 := by have := can_len (by omega) h; omega
theorem can_tot {l : List R} (h : CanF 0 l) : 0 ≤ tot l ∧ tot l ≤ 1114112 := by
  have h1 := rng.tot_le h
  have : ∀ {l : List R} {lo : Int}, lo ≤ 1114113 → CanF lo l → tot l ≤ 1114113 - lo := by
    intro l
    induction l with
    | nil => intro lo h _; simp [tot]; omega
    | cons p l ih =>
      intro lo h hc
      obtain ⟨h1, h2, h3, h4⟩ := hc
      have := ih (by omega) h4
      rw [rng.tot_cons]
      omega
  have := rng.tot_cn l 0 1114112 (Int.le_refl _) h (by omega)
  have h2 : ∀ (f : Int → Bool) (n : Nat), 0 ≤ cn f n ∧ cn f n ≤ n := by
    intro f n
    induction n with
    | zero => exact ⟨Int.le_refl _, Int.le_refl _⟩
    | succ n ih => rw [cn]; split <;> omega
  have := h2 (has l) 1114112
  omega
theorem len_tot : ∀ {l : List R} {lo : Int}, CanF lo l → (l.length : Int) ≤ tot l
  | [], _, _ => Int.le_refl _
  | p :: l, lo, h => by
    obtain ⟨h1, h2, h3, h4⟩ := h
    have := len_tot h4
    rw [rng.tot_cons, List.length_cons]
    omega
theorem pts_len {l : List R} (h : CanF 0 l) : (ptsL l).length ≤ 1114112 := by
  have := pts_tot h
  have := can_tot h
  omega

theorem can_take : ∀ {l : List R} {lo : Int} (k : Nat), CanF lo l → CanF lo (l.take k)
  | [], lo, k, h => by rw [List.take_nil]; exact h
  | p :: l, lo, 0, h => trivial
  | p :: l, lo, k + 1, h => by
    obtain ⟨h1, h2, h3, h4⟩ := h
    rw [List.take_succ_cons]
    exact ⟨h1, h2, h3, can_take k h4⟩
theorem pts_snoc {l : List R} {k : Nat} {p : R} (h : l[k]? = some p) : ptsL (l.take (k + 1)) = ptsL (l.take k) ++ span p.1 p.2 := by
  unfold ptsL
  rw [List.take_add_one, h, List.flatMap_append]
  simp
/-- The ranges of the file's records. -/
def tlR : List R := folL.map (fun x => (x.1, x.2.1))
theorem has_told (x : Int) : has tlR x = toldB x := by
  rw [Bool.eq_iff_iff, rng.has_iff]
  unfold toldB tlR
  rw [List.any_eq_true]
  constructor
  · rintro ⟨_, p, hp, h⟩
    obtain ⟨y, hy, rfl⟩ := List.mem_map.1 hp
    exact ⟨y, hy, (inR_iff _ _).2 h⟩
  · rintro ⟨y, hy, h⟩
    have h' := (inR_iff _ _).1 h
    exact ⟨(told_code (r := x) (by unfold toldB; rw [List.any_eq_true]; exact ⟨y, hy, h⟩)).1, _, List.mem_map.2 ⟨y, hy, rfl⟩, h'⟩
theorem isSet_code {r : List R} {f : Int → Bool} (h : IsSet r f) (x : Int) : has r x = true ↔ code x = true ∧ f x = true := by
  rw [h.hasEq x, Bool.and_eq_true]
def one (r : Int) : R := (r, r)
theorem has_ones (l : List Int) (g : Int → Int) (x : Int) : has (l.map (fun r => one (g r))) x = true ↔ code x = true ∧ ∃ r ∈ l, g r = x := by
  rw [rng.has_iff]
  refine and_congr_right fun _ => ?_
  constructor
  · rintro ⟨p, hp, h1, h2⟩
    obtain ⟨r, hr, rfl⟩ := List.mem_map.1 hp
    exact ⟨r, hr, by unfold one at h1 h2; simp only at h1 h2; omega⟩
  · rintro ⟨r, hr, rfl⟩
    exact ⟨_, List.mem_map.2 ⟨r, hr, rfl⟩, Int.le_refl _, Int.le_refl _⟩
/-- The program's way. -/
theorem clo_prog {a T M m0 f1 o res : List R} (hT : IsSet T (has tlR)) (hM : IsSet M (fun x => has a x && has T x)) (h0 : IsSet m0 (fun x => has a x && !has T x))
    (h1 : IsSet f1 (has (m0 ++ (ptsL M).map (fun r => one (sim r))))) (ho : IsSet o (fun x => has f1 x && !has T x))
    (hr : IsSet res (has (o ++ ((ptsL T).filter (fun r => has f1 (sim r))).map one))) : IsClo res a := by
  have tT : ∀ x, has T x = toldB x := fun x => by
    rw [hT.hasEq x, has_told]
    cases t : toldB x
    · rw [Bool.and_false]
    · rw [(told_code t).1]; rfl
  have F : ∀ x, has f1 x = true ↔ ∃ r, has a r = true ∧ sim r = x := fun x => by
    rw [isSet_code h1, rng.has_append, Bool.or_eq_true, isSet_code h0, has_ones, tT]
    constructor
    · rintro ⟨hc, ⟨_, h⟩ | ⟨_, r, hr, rfl⟩⟩
      · rw [Bool.and_eq_true, Bool.not_eq_true'] at h
        exact ⟨x, h.1, sim_untold h.2⟩
      · rw [can_pts hM.1, isSet_code hM, Bool.and_eq_true] at hr
        exact ⟨r, hr.2.1, rfl⟩
    · rintro ⟨r, hr, rfl⟩
      have hc := rng.has_code hr
      refine ⟨sim_code hc, ?_⟩
      cases t : toldB r
      · rw [sim_untold t, t]
        exact .inl ⟨hc, by rw [hr]; rfl⟩
      · refine .inr ⟨sim_code hc, r, ?_, rfl⟩
        rw [can_pts hM.1, isSet_code hM, tT, hr, t]
        exact ⟨hc, rfl⟩
  refine ⟨hr.1, fun x hx => ?_⟩
  have e1 : has (((ptsL T).filter (fun r => has f1 (sim r))).map one) x = true ↔ code x = true ∧ ∃ r ∈ (ptsL T).filter (fun r => has f1 (sim r)), r = x := has_ones _ (fun r => r) x
  rw [isSet_code hr, rng.has_append, Bool.or_eq_true, isSet_code ho, e1, tT, ← F]
  constructor
  · rintro ⟨_, ⟨_, h⟩ | ⟨_, r, hr, rfl⟩⟩
    · rw [Bool.and_eq_true, Bool.not_eq_true'] at h
      rw [sim_untold h.2]
      exact h.1
    · exact (List.mem_filter.1 hr).2
  · intro h
    refine ⟨hx, ?_⟩
    cases t : toldB x
    · rw [sim_untold t] at h
      exact .inl ⟨hx, by rw [h]; rfl⟩
    · exact .inr ⟨hx, x, List.mem_filter.2 ⟨by rw [can_pts hT.1, tT]; exact t, h⟩, rfl⟩

/-- What the document's side calls touched. -/
def tch (r : Int) : List Int := if sim r = r then [r] else [r, sim r]
def touched : List Int := tpts.flatMap tch
theorem mem_tch (r x : Int) : x ∈ tch r ↔ x = r ∨ x = sim r := by
  unfold tch
  split
  · rename_i h; rw [h]; simp
  · simp
theorem mem_touched (x : Int) : x ∈ touched ↔ ∃ r, toldB r = true ∧ (x = r ∨ x = sim r) := by
  unfold touched
  rw [List.mem_flatMap]
  constructor
  · rintro ⟨r, hr, h⟩; exact ⟨r, (told_iff r).2 hr, (mem_tch _ _).1 h⟩
  · rintro ⟨r, hr, h⟩; exact ⟨r, (told_iff r).1 hr, (mem_tch _ _).2 h⟩
theorem touched_code {x : Int} (h : x ∈ touched) : code x = true := by
  obtain ⟨r, hr, rfl | rfl⟩ := (mem_touched x).1 h
  · exact (told_code hr).1
  · exact (told_code hr).2
theorem clo_ref {a out folds more res : List R} (ho : IsSet out (has a)) (hf : folds = (touched.filter (has a)).map (fun r => one (sim r))) (hm : more = (touched.filter (fun r => has folds (sim r))).map one)
    (hr : IsSet res (fun x => has out x || has more x)) : IsClo res a := by
  have F : ∀ x, has folds x = true ↔ ∃ r ∈ touched, has a r = true ∧ sim r = x := fun x => by
    rw [hf, has_ones]
    constructor
    · rintro ⟨_, r, hr, rfl⟩
      rw [List.mem_filter] at hr
      exact ⟨r, hr.1, hr.2, rfl⟩
    · rintro ⟨r, hr, h, rfl⟩
      exact ⟨sim_code (touched_code hr), r, List.mem_filter.2 ⟨hr, h⟩, rfl⟩
  refine ⟨hr.1, fun x hx => ?_⟩
  have e1 : has more x = true ↔ code x = true ∧ ∃ r ∈ touched.filter (fun r => has folds (sim r)), r = x := by rw [hm]; exact has_ones _ (fun r => r) x
  rw [isSet_code hr, Bool.or_eq_true, isSet_code ho, e1]
  constructor
  · rintro ⟨_, ⟨_, h⟩ | ⟨_, r, hr, rfl⟩⟩
    · exact ⟨x, h, rfl⟩
    · rw [List.mem_filter, F] at hr
      obtain ⟨_, y, _, h, e⟩ := hr
      exact ⟨y, h, e⟩
  · rintro ⟨y, hy, e⟩
    refine ⟨hx, ?_⟩
    by_cases hxy : y = x
    · subst hxy; exact .inl ⟨hx, hy⟩
    · have both : x ∈ touched ∧ y ∈ touched := by
        rw [mem_touched, mem_touched]
        cases tx : toldB x <;> cases ty : toldB y
        · rw [sim_untold tx, sim_untold ty] at e; exact absurd e hxy
        · refine ⟨⟨y, ty, .inr ?_⟩, ⟨y, ty, .inl rfl⟩⟩
          rw [e, sim_untold tx]
        · refine ⟨⟨x, tx, .inl rfl⟩, ⟨x, tx, .inr ?_⟩⟩
          rw [← e, sim_untold ty]
        · exact ⟨⟨x, tx, .inl rfl⟩, ⟨y, ty, .inl rfl⟩⟩
      exact .inr ⟨hx, x, List.mem_filter.2 ⟨both.1, (F _).2 ⟨y, both.2, hy, e⟩⟩, rfl⟩
theorem touched_len : touched.length ≤ 1000 := by decide +kernel

/-- How many numbers of a list there are at most. -/
theorem cn_nonneg (f : Int → Bool) (n : Nat) : 0 ≤ cn f n := by
  induction n with
  | zero => exact Int.le_refl _
  | succ n ih => rw [cn]; split <;> omega
theorem cn_le {f g : Int → Bool} (h : ∀ x, f x = true → g x = true) (n : Nat) : cn f n ≤ cn g n := by
  induction n with
  | zero => exact Int.le_refl _
  | succ n ih =>
    rw [cn, cn]
    by_cases hf : f (n : Int) = true
    · rw [if_pos hf, if_pos (h _ hf)]; omega
    · rw [if_neg hf]; split <;> omega
theorem cn_list : ∀ (l : List Int) (n : Nat), cn (fun x => l.any (fun y => inP (y, y) x)) n ≤ l.length
  | [], n => by rw [show (fun x : Int => ([] : List Int).any (fun y => inP (y, y) x)) = fun _ => false from rfl, rng.cn_false]; exact Int.le_refl _
  | y :: l, n => by
    have h1 := cn_list l n
    have h2 := rng.cn_both (inP (y, y)) (fun x => l.any (fun y => inP (y, y) x)) n
    have h3 := cn_nonneg (fun x => inP (y, y) x && l.any (fun y => inP (y, y) x)) n
    have h4 : cn (inP (y, y)) n ≤ 1 := by
      by_cases h0 : 0 ≤ y
      · rw [rng.cn_inP y y h0 (Int.le_refl _)]; omega
      · have : cn (inP (y, y)) n = cn (fun _ => false) n := rng.cn_congr n (fun x h1 _ => by
          cases t : inP (y, y) x
          · rfl
          · have := (rng.inP_iff _ _).1 t; simp only at this; omega)
        rw [this, rng.cn_false]; omega
    have e : (fun x : Int => (y :: l).any (fun y => inP (y, y) x)) = fun x => inP (y, y) x || l.any (fun y => inP (y, y) x) := by funext x; rw [List.any_cons]
    rw [e, List.length_cons]
    omega
theorem tot_list {c : List R} (h : CanF 0 c) (l : List Int) (hl : ∀ x, has c x = true → x ∈ l) : tot c ≤ l.length := by
  rw [rng.tot_cn c 0 1114112 (Int.le_refl _) h (by omega)]
  refine Int.le_trans (cn_le (fun x hx => ?_) _) (cn_list l _)
  rw [List.any_eq_true]
  exact ⟨x, hl x hx, (rng.inP_iff _ _).2 ⟨Int.le_refl _, Int.le_refl _⟩⟩
def simT : List Int := tpts.map sim
/-- How often a folding stands in a list. -/
def few (l : List Int) : Bool := l.all (fun s => decide ((l.filter (fun t => t == s)).length ≤ 15))
set_option maxRecDepth 1000000 in
theorem sim_few : few simT = true := by decide +kernel
theorem filter_map (l : List Int) (s : Int) : (l.filter (fun r => sim r == s)).length = ((l.map sim).filter (fun t => t == s)).length := by
  induction l with
  | nil => rfl
  | cons x l ih =>
    rw [List.map_cons, List.filter_cons, List.filter_cons]
    cases sim x == s
    · exact ih
    · simp only [if_true, List.length_cons, ih]
theorem few_told (s : Int) : (tpts.filter (fun r => sim r == s)).length ≤ 15 := by
  rw [filter_map]
  by_cases h : s ∈ simT
  · have := List.all_eq_true.1 sim_few s h
    exact of_decide_eq_true this
  · have : (tpts.map sim).filter (fun t => t == s) = [] := by
      rw [List.filter_eq_nil_iff]
      intro t ht e
      rw [beq_iff_eq] at e
      subst e
      exact h ht
    rw [this]
    exact Nat.zero_le _
theorem clo_small {c : List R} {a : Int} (h : IsClo c [(a, a)]) : tot c ≤ 20 ∧ c.length ≤ 20 := by
  have h1 : tot c ≤ (sim a :: tpts.filter (fun r => sim r == sim a)).length := by
    refine tot_list h.1 _ (fun x hx => ?_)
    obtain ⟨y, hy, e⟩ := (h.2 x (rng.has_code hx)).1 hx
    obtain ⟨_, p, hp, h1, h2⟩ := (rng.has_iff _ _).1 hy
    obtain rfl := List.mem_singleton.1 hp
    obtain rfl : a = y := by simp only at h1 h2; omega
    cases t : toldB x
    · rw [sim_untold t] at e; rw [e]; simp
    · exact List.mem_cons_of_mem _ (List.mem_filter.2 ⟨(told_iff x).1 t, by rw [beq_iff_eq]; exact e.symm⟩)
  have h2 := few_told (sim a)
  have h3 := len_tot h.1
  rw [List.length_cons] at h1
  omega
theorem clo_one {c : List R} {a b : Int} (h : IsClo c [(a, a)]) (ha : code a = true) (hb : code b = true) : has c b = (sim a == sim b) := by
  rw [Bool.eq_iff_iff, h.2 b hb, beq_iff_eq]
  constructor
  · rintro ⟨y, hy, e⟩
    obtain ⟨_, p, hp, h1, h2⟩ := (rng.has_iff _ _).1 hy
    obtain rfl := List.mem_singleton.1 hp
    obtain rfl : a = y := by simp only at h1 h2; omega
    exact e
  · intro e
    exact ⟨a, (rng.has_iff _ _).2 ⟨ha, _, List.mem_singleton.2 rfl, Int.le_refl _, Int.le_refl _⟩, e⟩
end Go.Proofs.YtochajmhljipbaaGreatDoor.fld
end

section
/- fold.Simple, Full, Same on tables that Load made, and on tables that no call made; the document's ones. -/
set_option linter.unusedVariables false
set_option linter.unusedSimpArgs false
namespace Go.Proofs.YtochajmhljipbaaGreatDoor.fld
open Go.RowKit Go.Maps
open Go.Proofs.YtochajmhljipbaaGreatDoor.lin Go.Proofs.YtochajmhljipbaaGreatDoor.prp

theorem cat_zero : sF [67, 110] catL 0 = [67, 99] := by decide +kernel
set_option maxRecDepth 1000000 in
theorem fmade_t (t : Nat) (w : World) (h : Tabs w t) : Calls Tryz.prog 45 #[.pointer (some ⟨t, 0, none⟩)] w fun e w' => e = .returned (.bool true) ∧ Below w.heap.size w w' := by
  have C := category_t t 0 w h
  rw [cat_zero] at C
  have hq : (BA [67, 99]).toList = [67, 99] := by rw [Lib.toList_data, BA_data]
  clear h
  go_enter Tryz.func45, Tryz.ntmps45
  go_wp2_with fail
  refine C.mono ?_
  rintro e w1 ⟨rfl, hb⟩
  clear C
  go_wp2
  go_ret
  exact ⟨rfl, hb⟩
set_option maxRecDepth 1000000 in
theorem fmade_no (v : Value) (w : World) (h : Unmade w v) : Calls Tryz.prog 45 #[v] w fun e w' => e = .returned (.bool false) ∧ w' = w := by
  have C := category_no v 0 w h
  clear h
  go_enter Tryz.func45, Tryz.ntmps45
  go_wp2_with fail
  refine C.mono ?_
  rintro e w1 ⟨rfl, hw⟩
  rw [hw]
  clear C hw
  go_wp2
  go_ret
  exact ⟨rfl, rfl⟩
theorem iv_one {w : World} {v : Value} {x : Int} (h : IV w v [x]) : ∃ b o c, v = .slice (some ⟨b, o, none⟩) 1 c ∧ w.cell? ⟨b, o, none⟩ = some (.int .i64 x) := by
  obtain ⟨a, c, rfl, hv⟩ := h
  obtain ⟨b, o, rfl, hc⟩ := hv (Nat.zero_lt_one)
  exact ⟨b, o, c, rfl, hc 0 Nat.zero_lt_one⟩
set_option maxRecDepth 1000000 in
theorem simple_t (t : Nat) (r : Int) (w : World) (h : Tabs w t) (hr : okI r) : Calls Tryz.prog 11 #[.pointer (some ⟨t, 0, none⟩), .int .i64 r] w fun e w' => e = .returned (.int .i64 (sim r)) ∧ Below w.heap.size w w' := by
  have C := fold_false t r w h hr
  rw [fold_one] at C
  clear h hr
  generalize sim r = s at *
  go_enter Tryz.func11, Tryz.ntmps11
  go_wp2_with fail
  refine C.mono ?_
  rintro e w1 ⟨v, rfl, ho, hb⟩
  obtain ⟨b, o, c, rfl, hc⟩ := iv_one ho.iv
  clear C ho
  go_wp2
  go_ret
  exact ⟨rfl, hb⟩
set_option maxRecDepth 1000000 in
theorem simple_no (v : Value) (r : Int) (w : World) (h : Unmade w v) : Calls Tryz.prog 11 #[v, .int .i64 r] w fun e w' => e = .returned (.int .i64 0) ∧ w' = w := by
  have C := fold_no v r false w h
  clear h
  go_enter Tryz.func11, Tryz.ntmps11
  go_wp2_with fail
  refine C.mono ?_
  rintro e w1 ⟨rfl, hw⟩
  rw [hw]
  clear C hw
  go_wp2
  go_ret
  exact ⟨rfl, rfl⟩
set_option maxRecDepth 1000000 in
theorem rsimple_t (t : Nat) (r : Int) (w : World) (h : RTabs w t) (hr : okI r) : Calls Tryz.prog 12 #[.pointer (some ⟨t, 0, none⟩), .int .i64 r] w fun e w' => e = .returned (.int .i64 (sim r)) ∧ Below w.heap.size w w' := by
  have C := rfold_t t r false w h hr
  rw [fold_one] at C
  clear h hr
  generalize sim r = s at *
  go_enter Tryz.func12, Tryz.ntmps12
  go_wp2_with fail
  refine C.mono ?_
  rintro e w1 ⟨v, rfl, ho, hb⟩
  obtain ⟨b, o, c, rfl, hc⟩ := iv_one ho
  clear C ho
  go_wp2
  go_ret
  exact ⟨rfl, hb⟩
set_option maxRecDepth 1000000 in
theorem full_t (t : Nat) (r : Int) (w : World) (h : Tabs w t) (hr : okI r) : Calls Tryz.prog 14 #[.pointer (some ⟨t, 0, none⟩), .int .i64 r] w fun e w' => ∃ v, e = .returned v ∧ IOwn w' w.heap.size v (foldF true r) ∧ Below w.heap.size w w' := by
  have C := fold_true t r w h hr
  clear h hr
  generalize foldF true r = F at *
  go_enter Tryz.func14, Tryz.ntmps14
  go_wp2_with fail
  refine C.mono ?_
  rintro e w1 ⟨v, rfl, ho, hb⟩
  obtain ⟨va, vc, rfl⟩ := own_slice ho
  have H : Hid (IOwn w1 w.heap.size (.slice va F.length vc) F) := ho
  clear C ho
  generalize F.length = n at *
  go_wp2
  go_ret
  exact ⟨_, rfl, H.out, hb⟩
set_option maxRecDepth 1000000 in
theorem full_no (v : Value) (r : Int) (w : World) (h : Unmade w v) : Calls Tryz.prog 14 #[v, .int .i64 r] w fun e w' => e = .returned (.slice none 0 0) ∧ w' = w := by
  have C := fold_no v r true w h
  clear h
  go_enter Tryz.func14, Tryz.ntmps14
  go_wp2_with fail
  refine C.mono ?_
  rintro e w1 ⟨rfl, hw⟩
  rw [hw]
  clear C hw
  go_wp2
  go_ret
  exact ⟨rfl, rfl⟩
set_option maxRecDepth 1000000 in
theorem rfull_t (t : Nat) (r : Int) (w : World) (h : RTabs w t) (hr : okI r) : Calls Tryz.prog 15 #[.pointer (some ⟨t, 0, none⟩), .int .i64 r] w fun e w' => ∃ v, e = .returned v ∧ IV w' v (foldF true r) ∧ Below w.heap.size w w' := by
  have C := rfold_t t r true w h hr
  clear h hr
  generalize foldF true r = F at *
  go_enter Tryz.func15, Tryz.ntmps15
  go_wp2_with fail
  refine C.mono ?_
  rintro e w1 ⟨v, rfl, ho, hb⟩
  obtain ⟨va, vc, rfl, _⟩ := id ho
  have H : Hid (IV w1 (.slice va F.length vc) F) := ho
  clear C ho
  generalize F.length = n at *
  go_wp2
  go_ret
  exact ⟨_, rfl, H.out, hb⟩
set_option maxRecDepth 1000000 in
theorem same_t (t : Nat) (a b : Int) (w : World) (h : Tabs w t) (ha : okI a) (hb : okI b) : Calls Tryz.prog 16 #[.pointer (some ⟨t, 0, none⟩), .int .i64 a, .int .i64 b] w fun e w' => e = .returned (.bool (sim a == sim b)) ∧ Below w.heap.size w w' := by
  have C := fmade_t t w h
  have CA : Hid (∀ W, Below w.heap.size w W → Calls Tryz.prog 11 #[.pointer (some ⟨t, 0, none⟩), .int .i64 a] W fun e w' => e = .returned (.int .i64 (sim a)) ∧ Below W.heap.size W w') := fun W hW => simple_t t a W (h.below hW) ha
  have CB : Hid (∀ W, Below w.heap.size w W → Calls Tryz.prog 11 #[.pointer (some ⟨t, 0, none⟩), .int .i64 b] W fun e w' => e = .returned (.int .i64 (sim b)) ∧ Below W.heap.size W w') := fun W hW => simple_t t b W (h.below hW) hb
  clear h
  generalize sim a = A at *
  generalize sim b = B' at *
  go_enter Tryz.func16, Tryz.ntmps16
  go_wp2_with fail
  refine C.mono ?_
  rintro e w1 ⟨rfl, b1⟩
  clear C
  have C := CA.out w1 b1
  go_wp2_with fail
  refine C.mono ?_
  rintro e w2 ⟨rfl, b2⟩
  clear C
  have C := CB.out w2 (b1.trans (b2.mono b1.size))
  go_wp2_with fail
  refine C.mono ?_
  rintro e w3 ⟨rfl, b3⟩
  clear C
  have B2 := b1.trans (b2.mono b1.size)
  have B : Hid (Below w.heap.size w w3) := B2.trans (b3.mono B2.size)
  clear b1 b2 b3 B2 CA CB
  go_wp2
  go_ret
  exact ⟨rfl, B.out⟩
set_option maxRecDepth 1000000 in
theorem same_no (v : Value) (a b : Int) (w : World) (h : Unmade w v) : Calls Tryz.prog 16 #[v, .int .i64 a, .int .i64 b] w fun e w' => e = .returned (.bool false) ∧ w' = w := by
  have C := fmade_no v w h
  clear h
  go_enter Tryz.func16, Tryz.ntmps16
  go_wp2_with fail
  refine C.mono ?_
  rintro e w1 ⟨rfl, hw⟩
  rw [hw]
  clear C hw
  go_wp2
  go_ret
  exact ⟨rfl, rfl⟩
set_option maxRecDepth 1000000 in
theorem rsame_t (t : Nat) (a b : Int) (w : World) (h : RTabs w t) (ha : okI a) (hb : okI b) : Calls Tryz.prog 17 #[.pointer (some ⟨t, 0, none⟩), .int .i64 a, .int .i64 b] w fun e w' => e = .returned (.bool (sim a == sim b)) ∧ Below w.heap.size w w' := by
  have C := rsimple_t t a w h ha
  have CB : Hid (∀ W, Below w.heap.size w W → Calls Tryz.prog 12 #[.pointer (some ⟨t, 0, none⟩), .int .i64 b] W fun e w' => e = .returned (.int .i64 (sim b)) ∧ Below W.heap.size W w') := fun W hW => rsimple_t t b W (h.below hW) hb
  clear h
  generalize sim a = A at *
  generalize sim b = B' at *
  go_enter Tryz.func17, Tryz.ntmps17
  go_wp2_with fail
  refine C.mono ?_
  rintro e w2 ⟨rfl, b2⟩
  clear C
  have C := CB.out w2 b2
  go_wp2_with fail
  refine C.mono ?_
  rintro e w3 ⟨rfl, b3⟩
  clear C
  have B : Hid (Below w.heap.size w w3) := b2.trans (b3.mono b2.size)
  clear b2 b3 CB
  go_wp2
  go_ret
  exact ⟨rfl, B.out⟩
end Go.Proofs.YtochajmhljipbaaGreatDoor.fld
end

section
/- fold.one, fold.points, fold.toldOf. -/
set_option linter.unusedVariables false
set_option linter.unusedSimpArgs false
namespace Go.Proofs.YtochajmhljipbaaGreatDoor.fld
open Go.RowKit Go.Maps
open Go.Proofs.YtochajmhljipbaaGreatDoor.lin Go.Proofs.YtochajmhljipbaaGreatDoor.prp
open Go.Proofs.YtochajmhljipbaaGreatDoor.rng (R has IsSet Sl code CanF)

/-- A row of numbers lies apart from a block of another type. -/
theorem row_ne {w : World} {B e size n : Nat} {v : Value} {xs : List Value} {b : Nat} {cs : Array Value} {e' : TypeId} {fz : Nat × Nat} (h : w.ownsRow B e size v n xs) (hb : w.heap[b]? = some (.cells cs e' fz)) (hne : e ≠ e') : v.ownBlock ≠ some b := by
  intro hv
  rcases h.2 with ⟨rfl, _⟩ | ⟨g, cap, cur, rfl, _, hg, _⟩
  · cases hv
  · cases hv
    rw [show (⟨g, 0, none⟩ : Addr).block = g from rfl] at hb
    rw [hg] at hb
    injection hb with hb
    injection hb with h1 h2
    exact hne h2
theorem two_cells (w : World) (x y : Value) (t : TypeId) : ∀ (j : Nat) (u : Value), [x, y][j]? = some u → (w.alloc (Obj.cells #[x, y] t)).cell? ((⟨w.heap.size, 0, none⟩ : Addr).add j) = some u := by
  intro j u hj
  match j, hj with
  | 0, hj => simpa [Addr.add_lit] using hj
  | 1, hj => simpa [Addr.add_lit] using hj
theorem two_one (x y : Int) : ∀ u ∈ [Value.int .i64 x, Value.int .i64 y], u.oneCell' = true := by
  intro u hu
  simp only [List.mem_cons, List.mem_nil_iff, or_false] at hu
  rcases hu with rfl | rfl <;> rfl
theorem own_snoc {w : World} {B : Nat} {v : Value} {l : List R} {p : R} (h : w.ownsRow B 39 2 v (l.length + 1) (rng.flat l ++ [.int .i64 p.1, .int .i64 p.2])) : rng.Own w B v (l ++ [p]) := by
  unfold rng.Own
  rw [List.length_append, rng.flat_append]
  exact h
theorem io_snoc {w : World} {B : Nat} {v : Value} {l : List Int} {x : Int} (h : w.ownsRow B 3 1 v (l.length + 1) (l.map (Value.int .i64) ++ [.int .i64 x])) : IOwn w B v (l ++ [x]) := by
  unfold IOwn
  rw [List.length_append, List.map_append]
  exact h
theorem grow_block {W w5 : World} {o : Obj} {row : Option Nat} {b : Nat} {x : Obj} (hg : (W.alloc o).grownBy w5 row) (hb : W.heap[b]? = some x) (hne : row ≠ some b) : w5.heap[b]? = some x := by
  have hl := (Array.getElem?_eq_some_iff.1 hb).1
  exact (hg.block b (by simp; omega) (fun e => hne e.symm)).trans ((Below.heap_alloc _ _ _ hl).trans hb)

set_option maxRecDepth 1000000 in
theorem one_any (r : Int) (w : World) : Calls Tryz.prog 50 #[.int .i64 r] w fun e w' => e = .returned (.agg #[.int .i64 r, .int .i64 r]) ∧ Below w.heap.size w w' := by
  go_enter Tryz.func50, Tryz.ntmps50
  go_wp2
  refine bodyPost_ret (v := .agg #[.int .i64 r, .int .i64 r]) (by simp [results, Tryz.results50, go_sem]) rfl ⟨rfl, ?_⟩
  exact (Below.refl _ w).alloc (Nat.le_refl _) _

set_option maxHeartbeats 4000000 in
set_option maxRecDepth 1000000 in
theorem points_any (v : Value) (l : List R) (w : World) (hs : Sl w v l) (hc : CanF 0 l) :
    Calls Tryz.prog 48 #[v] w fun e w' => ∃ v', e = .returned v' ∧ IOwn w' w.heap.size v' (ptsL l) ∧ Below w.heap.size w w' := by
  obtain ⟨i0, hi, hz0, hy1, hz2⟩ := info_parts infoInt
  obtain ⟨ao, cap, rfl, hv, _⟩ := hs
  have HC : Hid (∀ k, k < l.length → ∃ (lo hi : Int) (b o : Nat), ao = some ⟨b, o, none⟩ ∧ w.cell? ⟨b, o + k * 2, none⟩ = some (.int .i64 lo) ∧ w.cell? ⟨b, o + k * 2 + 1, none⟩ = some (.int .i64 hi) ∧ 0 ≤ lo ∧ lo ≤ hi ∧ hi ≤ 1114111 ∧ ptsL (l.take (k + 1)) = ptsL (l.take k) ++ span lo hi ∧ (ptsL (l.take k)).length + (hi + 1 - lo).toNat ≤ 1114112) := fun k hk => by
    obtain ⟨b, o, e, hcell⟩ := hv.some (by omega)
    have hkk := List.getElem?_eq_getElem hk
    obtain ⟨c1, c2⟩ := hcell k _ hkk
    obtain ⟨r1, r2, r3⟩ := can_in (Int.le_refl 0) hc _ (List.getElem_mem hk)
    have e1 := pts_snoc hkk
    refine ⟨_, _, b, o, e, c1, c2, r1, r2, r3, e1, ?_⟩
    have := pts_len (can_take (k + 1) hc)
    rw [e1, List.length_append, span_len] at this
    exact this
  have hln : l.length ≤ 557056 := can_len0 hc
  have HALL : Hid (ptsL (l.take l.length) = ptsL l) := by rw [List.take_length]; rfl
  clear hv hc
  generalize hnl : l.length = nl at *
  clear hnl
  go_enter Tryz.func48, Tryz.ntmps48
  go_wp2
  go_loopw [3, 9] (fun v i wr => ∃ k : Nat, k ≤ nl ∧ i = .int .i64 k ∧ Hid (IOwn wr w.heap.size v (ptsL (l.take k))) ∧ Hid (Below w.heap.size w wr)) (fun _ i _ => nl - (RowKit.intOf i).toNat)
  case atStart => exact ⟨0, Nat.zero_le _, rfl, World.ownsRow_nil _ _ _ _, Below.refl _ _⟩
  case round =>
    obtain ⟨k, hk, rfl, HO, HB⟩ := hrel
    by_cases hlt : k < nl
    · have hlt' : (k : Int) < (nl : Int) := by omega
      obtain ⟨lo, hi', b, o, rfl, c0, c1, r1, r2, r3, hpt, hpl⟩ := HC.out k hlt
      have d0 := cell_below HB.out c0
      have d1 := cell_below HB.out c1
      have hsz := HB.out.size
      have HPT : Hid (ptsL (l.take (k + 1)) = ptsL (l.take k) ++ span lo hi') := hpt
      have HOA : Hid (∀ x, IOwn (wr.alloc x) w.heap.size u3 (ptsL (l.take k))) := fun x => World.ownsRow.alloc HO.out x
      have HBA : Hid (∀ x, Below w.heap.size w (wr.alloc x)) := fun x => HB.out.alloc hsz x
      have HNW : Hid ((wr.alloc (.cells #[.int .i64 lo, .int .i64 hi'] 39)).heap[wr.heap.size]? = some (.cells #[.int .i64 lo, .int .i64 hi'] 39 (0, 0))) := World.alloc_heap_new _ _
      clear HO HB hpt c0 c1
      generalize ptsL (l.take k) = AL at *
      go_wp2
      clear d0 d1
      generalize wr.heap.size = rb at *
      go_loopw [3, 6] (fun u x wz => ∃ p : Int, lo ≤ p ∧ p ≤ hi' + 1 ∧ x = .int .i64 p ∧ Hid (IOwn wz w.heap.size u (AL ++ span lo (p - 1))) ∧ Hid (Below w.heap.size w wz) ∧ Hid (wz.heap[rb]? = some (.cells #[.int .i64 lo, .int .i64 hi'] 39 (0, 0)))) (fun _ x _ => (hi' + 1 - RowKit.intOf x).toNat)
      case atStart => exact ⟨lo, by omega, by omega, rfl, by rw [span_nil, List.append_nil]; exact HOA.out _, HBA.out _, HNW.out⟩
      case round =>
        clear HOA HBA HNW
        obtain ⟨p, hp1, hp2, rfl, HO, HB, HX⟩ := hrel
        have x1 := cell_of_row wr rb 1 _ _ _ HX.out
        simp at x1
        by_cases hpi : p ≤ hi'
        · obtain ⟨ya, yc, rfl⟩ := own_slice HO.out
          have hne := row_ne HO.out HX.out (by decide)
          have HNE : Hid ((Value.slice ya (AL ++ span lo (p - 1)).length yc).ownBlock ≠ some rb) := hne
          have hsp : (AL ++ span lo (p - 1)).length ≤ 1114112 := by rw [List.length_append, span_len]; omega
          have HSN : Hid (AL ++ span lo p = (AL ++ span lo (p - 1)) ++ [p]) := by unfold Hid; rw [span_snoc hp1, List.append_assoc]
          have hs1 := HB.out.size
          have wp1 : IntKind.i64.wrap (p + 1) = p + 1 := by rw [IntKind.wrap_i64]; omega
          clear hne
          generalize AL ++ span lo (p - 1) = BL at *
          go_wp2_with (at_builtin; refine wpList_append_own _ rfl _ _ 22 rfl w.heap.size 3 i0 (.int .i64 0) 1 8 Tryz.underlying22 hi hz0 hy1 hz2 rfl (by decide) _ _ _ rfl (HO.out.alloc _) ⟨wr.heap.size, 0, none⟩ 1 1 [.int .i64 p] rfl rfl (cell_one_new _ _ _) ?c2 ?c3 ?c4 ?c5 ?_)
          case c2 => first | (intro u hu; simp at hu; subst hu; rfl) | simp [Value.oneCell']
          case c3 => unfold maxLen; omega
          case c4 => omega
          case c5 => first | omega | (simp; omega)
          intro v' w5 hown5 hgrow _
          have R2 : Hid (Below w.heap.size w w5) := Below.grown (HB.out.alloc hs1 _) hgrow (by simp; omega) (fun k e => (HO.out.lt k e).1)
          have R1 : Hid (IOwn w5 w.heap.size v' (AL ++ span lo (p + 1 - 1))) := by
            unfold Hid
            rw [show p + 1 - 1 = p by omega, HSN.out]
            exact io_snoc hown5
          have R3 : Hid (w5.heap[rb]? = some (.cells #[.int .i64 lo, .int .i64 hi'] 39 (0, 0))) := grow_block hgrow HX.out HNE.out
          obtain ⟨xa', xc', rfl⟩ := own_slice hown5
          clear hown5 hgrow HO HB HX HNE HSN
          go_wp2
          exact ⟨⟨p + 1, by omega, by omega, rfl, R1, R2, R3⟩, by simp [RowKit.intOf]; omega⟩
        · obtain rfl : p = hi' + 1 := by omega
          have R1 : Hid (IOwn wr w.heap.size u3 (ptsL (l.take (k + 1)))) := by
            unfold Hid
            rw [HPT.out]
            have := HO.out
            rw [show hi' + 1 - 1 = hi' by omega] at this
            exact this
          clear HO HX
          go_wp2
          exact ⟨⟨k + 1, by omega, by go_num, R1, HB⟩, by simp [RowKit.intOf]; omega⟩
    · obtain rfl : k = nl := by omega
      have hlt' : ¬ (k : Int) < (k : Int) := by omega
      have R1 : Hid (IOwn wr w.heap.size u3 (ptsL l)) := by
        have h1 := HO.out
        rw [HALL.out] at h1
        exact h1
      clear HO
      go_wp2
      go_ret
      exact ⟨_, rfl, R1.out, HB.out⟩
end Go.Proofs.YtochajmhljipbaaGreatDoor.fld
end

section
/- fold.toldOf: the set of the code points of the file's records. -/
set_option linter.unusedVariables false
set_option linter.unusedSimpArgs false
namespace Go.Proofs.YtochajmhljipbaaGreatDoor.fld
open Go.RowKit Go.Maps
open Go.Proofs.YtochajmhljipbaaGreatDoor.lin Go.Proofs.YtochajmhljipbaaGreatDoor.prp
open Go.Proofs.YtochajmhljipbaaGreatDoor.rng (R has IsSet Sl code CanF)

theorem tl_take {k : Nat} {x : RL} (h : folL[k]? = some x) : tlR.take (k + 1) = tlR.take k ++ [(x.1, x.2.1)] := by
  unfold tlR
  rw [List.take_add_one, List.getElem?_map, h]
  rfl
theorem tl_len : tlR.length = folL.length := by unfold tlR; rw [List.length_map]
set_option maxHeartbeats 4000000 in
set_option maxRecDepth 1000000 in
theorem told_any (w : World) (E : Env w) :
    Calls Tryz.prog 46 #[] w fun e w' => ∃ v T, e = .returned v ∧ Sl w' v T ∧ IsSet T (has tlR) ∧ Below w.heap.size w w' := by
  obtain ⟨i0, hi, hz0, hz1, hz2⟩ := rng.info_parts rng.infoRange
  obtain ⟨m, hm⟩ := E.ml
  have C1 := fol_any w
  have C2 := parse_any folB w m (by have := fol_size; omega) hm (World.block_lt_of_cell? w _ hm)
  rw [fol_parse] at C2
  clear hm E
  generalize hrf : folB = fB at *
  clear hrf
  go_enter Tryz.func46, Tryz.ntmps46
  go_wp2_with fail
  refine C1.mono ?_
  rintro e w0 ⟨rfl, hw0⟩
  rw [hw0]
  clear C1 hw0 w0
  go_wp2_with fail
  refine C2.mono ?_
  rintro e w1 ⟨v, rfl, hr, b1⟩
  clear C2
  obtain ⟨rb, ro, rc, rfl, hrec⟩ := view_recs hr.seen fol_n.1
  have HREC : Hid (∀ (i : Nat) (r : RL), folL[i]? = some r → ∃ g o2 c2, RecM w1 rb (ro + i * 3) r g o2 c2) := hrec
  have HN : Hid (∀ k, k < folL.length → ∃ x, folL[k]? = some x) := fun k hk => ⟨_, List.getElem?_eq_getElem hk⟩
  have HTK : Hid (∀ (k : Nat) (x : RL), folL[k]? = some x → tlR.take (k + 1) = tlR.take k ++ [(x.1, x.2.1)]) := fun k x h => tl_take h
  have HTL : Hid (∀ k, (tlR.take k).length ≤ k) := fun k => by rw [List.length_take]; omega
  have HALL : Hid (tlR.take folL.length = tlR) := by rw [← tl_len]; exact List.take_length
  have hn1 : folL.length ≤ 1000 := fol_n.2
  have HB1 : Hid (Below w.heap.size w w1) := b1
  clear hr hrec b1
  generalize folL.length = n at *
  go_wp2
  go_loopw [4, 15] (fun v i wr => ∃ k : Nat, k ≤ n ∧ i = .int .i64 k ∧ Hid (rng.Own wr w1.heap.size v (tlR.take k)) ∧ Hid (Below w1.heap.size w1 wr)) (fun _ i _ => n - (RowKit.intOf i).toNat)
  case atStart => exact ⟨0, Nat.zero_le _, rfl, World.ownsRow_nil _ _ _ _, Below.refl _ _⟩
  case round =>
    obtain ⟨k, hk, rfl, HO, HB⟩ := hrel
    by_cases hlt : k < n
    · have hlt' : (k : Int) < (n : Int) := by omega
      obtain ⟨x, hx⟩ := HN.out k hlt
      obtain ⟨fg, fo, fc, hrm0⟩ := HREC.out k x hx
      have hrm := hrm0.below HB.out
      have q0 := hrm.lo
      have q1 := hrm.hi
      have q2 := hrm.fv
      have hk2 := HTK.out k x hx
      have hfl := HTL.out k
      obtain ⟨ya, yc, rfl⟩ := own_slice HO.out
      obtain ⟨lo, hi', fs⟩ := x
      simp only at q0 q1 q2 hk2
      have HKK : Hid (tlR.take (k + 1) = tlR.take k ++ [(lo, hi')]) := hk2
      have hsz := HB.out.size
      have HO2 : Hid (∀ x y, (((wr.alloc x).alloc y)).ownsRow w1.heap.size 39 2 (.slice ya (tlR.take k).length yc) (tlR.take k).length (rng.flat (tlR.take k))) := fun x y => World.ownsRow.alloc (World.ownsRow.alloc HO.out x) y
      clear hrm hrm0 hx hk2
      generalize tlR.take k = TL at *
      generalize fs.length = n3 at *
      go_wp2_with (at_builtin; refine wpList_append_own _ rfl _ _ 36 rfl w1.heap.size 39 i0 (.agg #[.int .i64 0, .int .i64 0]) 2 16 Tryz.underlying36 hi hz0 hz1 hz2 rfl (by decide) _ _ _ rfl (HO2.out _ _) ⟨wr.heap.size + 1, 0, none⟩ 1 1 [.int .i64 lo, .int .i64 hi'] rfl rfl (rng.two_new _ _ _ _ _) (two_one _ _) ?c3 ?c4 ?c5 ?_)
      case c3 => unfold maxLen; omega
      case c4 => omega
      case c5 => first | omega | (simp; omega)
      intro v' w5 hown5 hgrow _
      have R2 : Hid (Below w1.heap.size w1 w5) := Below.grown ((HB.out.alloc hsz _).alloc (by simp; omega) _) hgrow (by simp; omega) (fun k e => (HO.out.lt k e).1)
      have R1 : Hid (rng.Own w5 w1.heap.size v' (tlR.take (k + 1))) := by
        unfold Hid
        rw [HKK.out]
        exact own_snoc (p := (lo, hi')) hown5
      obtain ⟨xa', xc', rfl⟩ := own_slice hown5
      clear hown5 hgrow HO HB HO2 HKK
      go_wp2
      go_roundw
      case rel => exact ⟨k + 1, by omega, by go_num, R1, R2⟩
      case measure => simp [RowKit.intOf]; omega
    · obtain rfl : k = n := by omega
      have hlt' : ¬ (k : Int) < (k : Int) := by omega
      have hfl := HTL.out k
      have HS := HO.out.sl
      rw [HALL.out] at HS hfl
      have C := rng.make_s _ tlR wr HS (by omega)
      have HB9 : Hid (Below w.heap.size w wr) := HB1.out.trans (HB.out.mono HB1.out.size)
      obtain ⟨ya, yc, rfl, _⟩ := HS
      clear HO HB HB1
      generalize tlR.length = tn at *
      go_wp2_with fail
      refine C.mono ?_
      rintro e w9 ⟨v9, T, rfl, hs9, hT, b9⟩
      clear C
      obtain ⟨za, zc, rfl, _⟩ := id hs9
      have HS9 : Hid (Sl w9 (.slice za T.length zc) T) := hs9
      clear hs9
      generalize T.length = Tn at *
      go_wp2
      go_ret
      exact ⟨_, T, rfl, HS9.out, hT, HB9.out.trans (b9.mono HB9.out.size)⟩
end Go.Proofs.YtochajmhljipbaaGreatDoor.fld
end
