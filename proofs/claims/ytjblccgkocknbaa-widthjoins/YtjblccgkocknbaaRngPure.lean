/- Plain mathematics of sets of code points (no program): lists of ranges, what they mean, sets, their edges, their sizes. -/
set_option linter.unusedVariables false
set_option linter.unusedSimpArgs false
namespace Go.Proofs.Ytjblccgkocknbaa.rng

abbrev R := Int × Int
def code (x : Int) : Bool := decide (0 ≤ x) && decide (x ≤ 1114111)
def inP (p : R) (x : Int) : Bool := decide (p.1 ≤ x) && decide (x ≤ p.2)
/-- Is x in what the list means. -/
def has (l : List R) (x : Int) : Bool := code x && l.any (fun p => inP p x)
/-- Rising from lo on, apart, of code points alone. -/
def CanF : Int → List R → Prop
  | _, [] => True
  | lo, p :: r => lo ≤ p.1 ∧ p.1 ≤ p.2 ∧ p.2 ≤ 1114111 ∧ CanF (p.2 + 2) r
def canB : Int → List R → Bool
  | _, [] => true
  | lo, p :: r => decide (lo ≤ p.1 ∧ p.1 ≤ p.2 ∧ p.2 ≤ 1114111) && canB (p.2 + 2) r
/-- Where the next range may begin. -/
def nxt : Int → List R → Int
  | lo, [] => lo
  | _, p :: r => nxt (p.2 + 2) r
/-- r is the set of all code points of which f holds. -/
def IsSet (r : List R) (f : Int → Bool) : Prop := CanF 0 r ∧ ∀ x, code x = true → has r x = f x

theorem code_iff (x : Int) : code x = true ↔ 0 ≤ x ∧ x ≤ 1114111 := by simp [code]
theorem inP_iff (p : R) (x : Int) : inP p x = true ↔ p.1 ≤ x ∧ x ≤ p.2 := by simp [inP]
theorem has_nil (x : Int) : has [] x = false := by simp [has]
theorem has_cons (p : R) (l : List R) (x : Int) : has (p :: l) x = (code x && inP p x || has l x) := by
  simp only [has, List.any_cons]; cases code x <;> simp
theorem has_append (l m : List R) (x : Int) : has (l ++ m) x = (has l x || has m x) := by
  induction l with
  | nil => simp [has_nil]
  | cons p l ih => rw [List.cons_append, has_cons, has_cons, ih, Bool.or_assoc]
theorem has_code {l : List R} {x : Int} (h : has l x = true) : code x = true := by
  unfold has at h; cases hc : code x
  · rw [hc] at h; simp at h
  · rfl
theorem has_iff (l : List R) (x : Int) : has l x = true ↔ code x = true ∧ ∃ p ∈ l, p.1 ≤ x ∧ x ≤ p.2 := by
  unfold has; rw [Bool.and_eq_true, List.any_eq_true]; simp only [inP_iff]
theorem canB_iff : ∀ (lo : Int) (l : List R), canB lo l = true ↔ CanF lo l
  | _, [] => by simp [canB, CanF]
  | lo, p :: r => by rw [canB, CanF, Bool.and_eq_true, canB_iff, decide_eq_true_eq, and_assoc, and_assoc]
theorem can_lo {l : List R} {lo x : Int} (h : CanF lo l) (hx : has l x = true) : lo ≤ x := by
  induction l generalizing lo with
  | nil => rw [has_nil] at hx; cases hx
  | cons p r ih =>
    obtain ⟨h1, h2, h3, h4⟩ := h
    rw [has_cons, Bool.or_eq_true, Bool.and_eq_true, inP_iff] at hx
    rcases hx with hx | hx
    · omega
    · have := ih h4 hx; omega
theorem can_mono {l : List R} {lo lo' : Int} (h : CanF lo l) (hl : lo' ≤ lo) : CanF lo' l := by
  cases l with
  | nil => trivial
  | cons p r => obtain ⟨h1, h2⟩ := h; exact ⟨by omega, h2⟩
theorem can_has {p : R} {r : List R} {lo x : Int} (h0 : 0 ≤ lo) (h : CanF lo (p :: r)) : has (p :: r) x = (inP p x || has r x) := by
  obtain ⟨h1, h2, h3, h4⟩ := h
  rw [has_cons]
  cases hi : inP p x
  · simp
  · rw [inP_iff] at hi
    rw [(code_iff x).2 (by omega)]; rfl
theorem can_ext : ∀ (r s : List R) (lo : Int), 0 ≤ lo → CanF lo r → CanF lo s → (∀ x, has r x = has s x) → r = s
  | [], [], _, _, _, _, _ => rfl
  | [], q :: s, lo, h0, _, hs, h => by
    have := h q.1; rw [can_has h0 hs, has_nil] at this
    obtain ⟨h1, h2, _⟩ := hs
    rw [(inP_iff q q.1).2 (by omega)] at this; cases this
  | p :: r, [], lo, h0, hr, _, h => by
    have := h p.1; rw [can_has h0 hr, has_nil] at this
    obtain ⟨h1, h2, _⟩ := hr
    rw [(inP_iff p p.1).2 (by omega)] at this; cases this
  | p :: r, q :: s, lo, h0, hr, hs, h => by
    have h' : ∀ x, (inP p x || has r x) = (inP q x || has s x) := fun x => by rw [← can_has h0 hr, ← can_has h0 hs, h x]
    obtain ⟨a1, a2, a3, a4⟩ := hr
    obtain ⟨b1, b2, b3, b4⟩ := hs
    have e1 : q.1 ≤ p.1 := by
      have := h' p.1; rw [(inP_iff p p.1).2 (by omega), Bool.true_or] at this
      have := (Bool.or_eq_true _ _ ▸ this.symm : inP q p.1 = true ∨ has s p.1 = true)
      rcases this with t | t
      · exact ((inP_iff _ _).1 t).1
      · have := can_lo b4 t; omega
    have e2 : p.1 ≤ q.1 := by
      have := h' q.1; rw [(inP_iff q q.1).2 (by omega), Bool.true_or] at this
      have := (Bool.or_eq_true _ _ ▸ this : inP p q.1 = true ∨ has r q.1 = true)
      rcases this with t | t
      · exact ((inP_iff _ _).1 t).1
      · have := can_lo a4 t; omega
    have e3 : ¬ p.2 < q.2 := fun hlt => by
      have := h' (p.2 + 1); rw [(inP_iff q (p.2 + 1)).2 (by omega), Bool.true_or] at this
      have := (Bool.or_eq_true _ _ ▸ this : inP p (p.2 + 1) = true ∨ has r (p.2 + 1) = true)
      rcases this with t | t
      · have := ((inP_iff _ _).1 t).2; omega
      · have := can_lo a4 t; omega
    have e4 : ¬ q.2 < p.2 := fun hlt => by
      have := h' (q.2 + 1); rw [(inP_iff p (q.2 + 1)).2 (by omega), Bool.true_or] at this
      have := (Bool.or_eq_true _ _ ▸ this.symm : inP q (q.2 + 1) = true ∨ has s (q.2 + 1) = true)
      rcases this with t | t
      · have := ((inP_iff _ _).1 t).2; omega
      · have := can_lo b4 t; omega
    have e : p = q := Prod.ext (by omega) (by omega)
    subst e
    have : r = s := can_ext r s (p.2 + 2) (by omega) a4 b4 (fun x => by
      have hx := h' x
      by_cases hle : x ≤ p.2 + 1
      · have f1 : has r x = false := by cases t : has r x; rfl; have := can_lo a4 t; omega
        have f2 : has s x = false := by cases t : has s x; rfl; have := can_lo b4 t; omega
        rw [f1, f2]
      · have f1 : inP p x = false := by cases t : inP p x; rfl; have := ((inP_iff _ _).1 t).2; omega
        rw [f1, Bool.false_or, Bool.false_or] at hx; exact hx)
    rw [this]
/-- Two sets of which the same holds are one. -/
theorem IsSet.eq {r s : List R} {f g : Int → Bool} (hr : IsSet r f) (hs : IsSet s g) (h : ∀ x, code x = true → f x = g x) : r = s := by
  refine can_ext r s 0 (Int.le_refl _) hr.1 hs.1 (fun x => ?_)
  cases hc : code x
  · simp [has, hc]
  · rw [hr.2 x hc, hs.2 x hc, h x hc]
theorem IsSet.congr {r : List R} {f g : Int → Bool} (h : IsSet r f) (e : ∀ x, code x = true → f x = g x) : IsSet r g := ⟨h.1, fun x hc => (h.2 x hc).trans (e x hc)⟩
theorem IsSet.hasEq {r : List R} {f : Int → Bool} (h : IsSet r f) (x : Int) : has r x = (code x && f x) := by
  cases hc : code x
  · simp [has, hc]
  · rw [h.2 x hc]; rfl
theorem IsSet.self {r : List R} (h : CanF 0 r) : IsSet r (has r) := ⟨h, fun _ _ => rfl⟩

theorem can_snoc : ∀ (l : List R) (lo : Int) (q : R), CanF lo (l ++ [q]) ↔ CanF lo l ∧ nxt lo l ≤ q.1 ∧ q.1 ≤ q.2 ∧ q.2 ≤ 1114111
  | [], lo, q => by simp [CanF, nxt]
  | p :: l, lo, q => by rw [List.cons_append, CanF, CanF, nxt, can_snoc l]; constructor <;> (rintro ⟨a, b⟩; simp_all)
theorem nxt_snoc : ∀ (l : List R) (lo : Int) (q : R), nxt lo (l ++ [q]) = q.2 + 2
  | [], lo, q => rfl
  | p :: l, lo, q => by rw [List.cons_append, nxt, nxt_snoc l]
theorem nxt_ge : ∀ (l : List R) (lo : Int), CanF lo l → lo ≤ nxt lo l
  | [], lo, _ => Int.le_refl _
  | p :: l, lo, h => by obtain ⟨h1, h2, h3, h4⟩ := h; have := nxt_ge l _ h4; rw [nxt]; omega
theorem can_length : ∀ (l : List R) (lo : Int), CanF lo l → lo + 2 * l.length ≤ nxt lo l
  | [], lo, _ => by simp [nxt]
  | p :: l, lo, h => by obtain ⟨h1, h2, h3, h4⟩ := h; have := can_length l _ h4; rw [nxt]; simp; omega
theorem nxt_le : ∀ (l : List R) (lo : Int), lo ≤ 1114113 → CanF lo l → nxt lo l ≤ 1114113
  | [], lo, h0, _ => h0
  | p :: l, lo, h0, h => by obtain ⟨h1, h2, h3, h4⟩ := h; rw [nxt]; exact nxt_le l _ (by omega) h4
/-- A set has so many ranges at most. -/
theorem can_len {l : List R} (h : CanF 0 l) : l.length ≤ 557056 := by
  have h1 := can_length l 0 h; have h2 := nxt_le l 0 (by omega) h; omega
theorem can_hi {l : List R} {lo x : Int} (h : CanF lo l) (hx : has l x = true) : x + 2 ≤ nxt lo l := by
  induction l generalizing lo with
  | nil => rw [has_nil] at hx; cases hx
  | cons p r ih =>
    obtain ⟨h1, h2, h3, h4⟩ := h
    rw [has_cons, Bool.or_eq_true, Bool.and_eq_true, inP_iff] at hx
    rw [nxt]
    rcases hx with hx | hx
    · have := nxt_ge r _ h4; omega
    · exact ih h4 hx
theorem can_mem {l : List R} {lo : Int} (h0 : 0 ≤ lo) (h : CanF lo l) : ∀ p ∈ l, 0 ≤ p.1 ∧ p.1 ≤ p.2 ∧ p.2 ≤ 1114111 := by
  induction l generalizing lo with
  | nil => intro p hp; cases hp
  | cons q r ih =>
    obtain ⟨h1, h2, h3, h4⟩ := h
    intro p hp
    rcases List.mem_cons.1 hp with rfl | hp
    · omega
    · exact ih (by omega) h4 p hp

/-- What a range is cut to, and which ranges mean something. -/
def clip (p : R) : R := (max p.1 0, min p.2 1114111)
def usable (l : List R) : List R := (l.map clip).filter fun p => decide (p.1 ≤ p.2)
theorem has_usable (l : List R) (x : Int) : has (usable l) x = has l x := by
  induction l with
  | nil => rfl
  | cons p l ih =>
    unfold usable at ih ⊢
    rw [List.map_cons, List.filter_cons]
    split
    · rw [has_cons, has_cons, ih]
      congr 1
      rw [Bool.eq_iff_iff]; simp only [Bool.and_eq_true, code_iff, inP_iff, clip]; omega
    · rename_i hn
      rw [has_cons, ih]
      have : (code x && inP p x) = false := by
        rw [Bool.eq_false_iff]; intro h; simp only [Bool.and_eq_true, code_iff, inP_iff] at h
        have hn' : ¬ max p.1 0 ≤ min p.2 1114111 := fun e => hn (decide_eq_true e)
        omega
      rw [this, Bool.false_or]
theorem usable_mem {l : List R} : ∀ p ∈ usable l, 0 ≤ p.1 ∧ p.1 ≤ p.2 ∧ p.2 ≤ 1114111 := by
  intro p hp
  unfold usable at hp
  rw [List.mem_filter, List.mem_map] at hp
  obtain ⟨⟨q, _, rfl⟩, h⟩ := hp
  have h' : max q.1 0 ≤ min q.2 1114111 := of_decide_eq_true h
  simp only [clip]; omega
theorem usable_length (l : List R) : (usable l).length ≤ l.length := by
  unfold usable; have := List.length_filter_le (fun p : R => decide (p.1 ≤ p.2)) (l.map clip); simpa using this
theorem usable_snoc (l : List R) (p : R) : usable (l ++ [p]) = usable l ++ (if (clip p).1 ≤ (clip p).2 then [clip p] else []) := by
  unfold usable; rw [List.map_append, List.filter_append, List.map_singleton, List.filter_cons, List.filter_nil]; simp
theorem has_perm {l m : List R} (h : l.Perm m) (x : Int) : has l x = has m x := by
  rw [Bool.eq_iff_iff, has_iff, has_iff]; simp only [h.mem_iff]

/-- How Make goes on: p: what was gone through; out: its set; rest: what is left. -/
structure MkInv (p out rest : List R) : Prop where
  can : CanF 0 out
  same : ∀ x, has out x = has p x
  last : ∀ i q, out = i ++ [q] → ∀ y ∈ rest, q.1 ≤ y.1
  good : ∀ y ∈ rest, 0 ≤ y.1 ∧ y.1 ≤ y.2 ∧ y.2 ≤ 1114111
  rise : rest.Pairwise fun a b => a.1 ≤ b.1
theorem MkInv.start {s : List R} (h : s.Pairwise fun a b => a.1 ≤ b.1) (hg : ∀ y ∈ s, 0 ≤ y.1 ∧ y.1 ≤ y.2 ∧ y.2 ≤ 1114111) : MkInv [] [] s :=
  ⟨trivial, fun _ => rfl, fun i q h => by simp at h, hg, h⟩
theorem snoc_inj {i j : List R} {p q : R} (h : i ++ [p] = j ++ [q]) : i = j ∧ p = q := by
  have := List.append_inj' h rfl
  exact ⟨this.1, by simpa using this.2⟩
theorem MkInv.new {p out rest : List R} {x : R} (h : MkInv p out (x :: rest)) (hn : ∀ i q, out = i ++ [q] → q.2 + 1 < x.1) : MkInv (p ++ [x]) (out ++ [x]) rest := by
  have hx := h.good x (by simp)
  refine ⟨(can_snoc _ _ _).2 ⟨h.can, ?_, hx.2.1, hx.2.2⟩, fun y => by rw [has_append, has_append, h.same], fun i q e y hy => ?_, fun y hy => h.good y (by simp [hy]), (List.pairwise_cons.1 h.rise).2⟩
  · rcases List.eq_nil_or_concat out with rfl | ⟨i, q, rfl⟩
    · simp [nxt]; exact hx.1
    · rw [List.concat_eq_append] at hn ⊢; rw [nxt_snoc]; have := hn i q rfl; omega
  · obtain ⟨_, rfl⟩ := snoc_inj e
    exact (List.pairwise_cons.1 h.rise).1 y hy
theorem MkInv.join {p i rest : List R} {q x : R} (h : MkInv p (i ++ [q]) (x :: rest)) (hn : x.1 ≤ q.2 + 1) : MkInv (p ++ [x]) (i ++ [(q.1, max q.2 x.2)]) rest := by
  have hx := h.good x (by simp)
  obtain ⟨c1, c2, c3, c4⟩ := (can_snoc _ _ _).1 h.can
  have hq : q.1 ≤ x.1 := h.last i q rfl x (by simp)
  have hq0 : 0 ≤ q.1 := by have := nxt_ge i 0 c1; omega
  refine ⟨(can_snoc _ _ _).2 ⟨c1, c2, by simp only; omega, by simp only; omega⟩, fun y => ?_, fun j r e y hy => ?_, fun y hy => h.good y (by simp [hy]), (List.pairwise_cons.1 h.rise).2⟩
  · rw [has_append, has_append, ← h.same y, has_append, Bool.or_assoc]
    congr 1
    simp only [has_cons, has_nil, Bool.or_false]
    rw [Bool.eq_iff_iff]; simp only [Bool.and_eq_true, Bool.or_eq_true, code_iff, inP_iff]; omega
  · obtain ⟨_, rfl⟩ := snoc_inj e
    exact h.last i q rfl y (by simp [hy])
theorem MkInv.done {p out : List R} (h : MkInv p out []) : IsSet out (has p) := ⟨h.can, fun x _ => h.same x⟩
end Go.Proofs.Ytjblccgkocknbaa.rng
