/- Texts that the proof leans on, one behind the other. -/


section
/- Plain mathematics of sets of code points (no program): lists of ranges, what they mean, sets, their edges, their sizes. -/
set_option linter.unusedVariables false
set_option linter.unusedSimpArgs false
namespace Go.Proofs.YtjbcapnpknbbaaaGreat.rng

abbrev R := Int × Int
def code (x : Int) : Bool := decide (0 ≤ x) && decide (x ≤ 1114111)
def inP (p : R) (x : Int) : Bool := decide (p.1 ≤ x) && decide (x ≤ p.2)
/-- Is x in what the list means. -/
def has (l : List R) (x : Int) : Bool := code x && l.any (fun p => inP p x)
/-- Rising from lo on, apart, of code points alone. -/
def CanF : Int → List R → Prop
  | _, [] => True
  | lo, p :: r => lo ≤ p.1 ∧ p.1 ≤ p.2 ∧ p.2 ≤ 1114111 ∧ CanF (p.2 + 2) r
def canB : Int → List R → Bool
  | _, [] => true
  | lo, p :: r => decide (lo ≤ p.1 ∧ p.1 ≤ p.2 ∧ p.2 ≤ 1114111) && canB (p.2 + 2) r
/-- Where the next range may begin. -/
def nxt : Int → List R → Int
  | lo, [] => lo
  | _, p :: r => nxt (p.2 + 2) r
/-- r is the set of all code points of which f holds. -/
def IsSet (r : List R) (f : Int → Bool) : Prop := CanF 0 r ∧ ∀ x, code x = true → has r x = f x

theorem code_iff (x : Int) : code x = true ↔ 0 ≤ x ∧ x ≤ 1114111 := by simp [code]
theorem inP_iff (p : R) (x : Int) : inP p x = true ↔ p.1 ≤ x ∧ x ≤ p.2 := by simp [inP]
theorem has_nil (x : Int) : has [] x = false := by simp [has]
theorem has_cons (p : R) (l : List R) (x : Int) : has (p :: l) x = (code x && inP p x || has l x) := by
  simp only [has, List.any_cons]; cases code x <;> simp
theorem has_append (l m : List R) (x : Int) : has (l ++ m) x = (has l x || has m x) := by
  induction l with
  | nil => simp [has_nil]
  | cons p l ih => rw [List.cons_append, has_cons, has_cons, ih, Bool.or_assoc]
theorem has_code {l : List R} {x : Int} (h : has l x = true) : code x = true := by
  unfold has at h; cases hc : code x
  · rw [hc] at h; simp at h
  · rfl
theorem has_iff (l : List R) (x : Int) : has l x = true ↔ code x = true ∧ ∃ p ∈ l, p.1 ≤ x ∧ x ≤ p.2 := by
  unfold has; rw [Bool.and_eq_true, List.any_eq_true]; simp only [inP_iff]
theorem canB_iff : ∀ (lo : Int) (l : List R), canB lo l = true ↔ CanF lo l
  | _, [] => by simp [canB, CanF]
  | lo, p :: r => by rw [canB, CanF, Bool.and_eq_true, canB_iff, decide_eq_true_eq, and_assoc, and_assoc]
theorem can_lo {l : List R} {lo x : Int} (h : CanF lo l) (hx : has l x = true) : lo ≤ x := by
  induction l generalizing lo with
  | nil => rw [has_nil] at hx; cases hx
  | cons p r ih =>
    obtain ⟨h1, h2, h3, h4⟩ := h
    rw [has_cons, Bool.or_eq_true, Bool.and_eq_true, inP_iff] at hx
    rcases hx with hx | hx
    · omega
    · have := ih h4 hx; omega
theorem can_mono {l : List R} {lo lo' : Int} (h : CanF lo l) (hl : lo' ≤ lo) : CanF lo' l := by
  cases l with
  | nil => trivial
  | cons p r => obtain ⟨h1, h2⟩ := h; exact ⟨by omega, h2⟩
theorem can_has {p : R} {r : List R} {lo x : Int} (h0 : 0 ≤ lo) (h : CanF lo (p :: r)) : has (p :: r) x = (inP p x || has r x) := by
  obtain ⟨h1, h2, h3, h4⟩ := h
  rw [has_cons]
  cases hi : inP p x
  · simp
  · rw [inP_iff] at hi
    rw [(code_iff x).2 (by omega)]; rfl
theorem can_ext : ∀ (r s : List R) (lo : Int), 0 ≤ lo → CanF lo r → CanF lo s → (∀ x, has r x = has s x) → r = s
  | [], [], _, _, _, _, _ => rfl
  | [], q :: s, lo, h0, _, hs, h => by
    have := h q.1; rw [can_has h0 hs, has_nil] at this
    obtain ⟨h1, h2, _⟩ := hs
    rw [(inP_iff q q.1).2 (by omega)] at this; cases this
  | p :: r, [], lo, h0, hr, _, h => by
    have := h p.1; rw [can_has h0 hr, has_nil] at this
    obtain ⟨h1, h2, _⟩ := hr
    rw [(inP_iff p p.1).2 (by omega)] at this; cases this
  | p :: r, q :: s, lo, h0, hr, hs, h => by
    have h' : ∀ x, (inP p x || has r x) = (inP q x || has s x) := fun x => by rw [← can_has h0 hr, ← can_has h0 hs, h x]
    obtain ⟨a1, a2, a3, a4⟩ := hr
    obtain ⟨b1, b2, b3, b4⟩ := hs
    have e1 : q.1 ≤ p.1 := by
      have := h' p.1; rw [(inP_iff p p.1).2 (by omega), Bool.true_or] at this
      have := (Bool.or_eq_true _ _ ▸ this.symm : inP q p.1 = true ∨ has s p.1 = true)
      rcases this with t | t
      · exact ((inP_iff _ _).1 t).1
      · have := can_lo b4 t; omega
    have e2 : p.1 ≤ q.1 := by
      have := h' q.1; rw [(inP_iff q q.1).2 (by omega), Bool.true_or] at this
      have := (Bool.or_eq_true _ _ ▸ this : inP p q.1 = true ∨ has r q.1 = true)
      rcases this with t | t
      · exact ((inP_iff _ _).1 t).1
      · have := can_lo a4 t; omega
    have e3 : ¬ p.2 < q.2 := fun hlt => by
      have := h' (p.2 + 1); rw [(inP_iff q (p.2 + 1)).2 (by omega), Bool.true_or] at this
      have := (Bool.or_eq_true _ _ ▸ this : inP p (p.2 + 1) = true ∨ has r (p.2 + 1) = true)
      rcases this with t | t
      · have := ((inP_iff _ _).1 t).2; omega
      · have := can_lo a4 t; omega
    have e4 : ¬ q.2 < p.2 := fun hlt => by
      have := h' (q.2 + 1); rw [(inP_iff p (q.2 + 1)).2 (by omega), Bool.true_or] at this
      have := (Bool.or_eq_true _ _ ▸ this.symm : inP q (q.2 + 1) = true ∨ has s (q.2 + 1) = true)
      rcases this with t | t
      · have := ((inP_iff _ _).1 t).2; omega
      · have := can_lo b4 t; omega
    have e : p = q := Prod.ext (by omega) (by omega)
    subst e
    have : r = s := can_ext r s (p.2 + 2) (by omega) a4 b4 (fun x => by
      have hx := h' x
      by_cases hle : x ≤ p.2 + 1
      · have f1 : has r x = false := by cases t : has r x; rfl; have := can_lo a4 t; omega
        have f2 : has s x = false := by cases t : has s x; rfl; have := can_lo b4 t; omega
        rw [f1, f2]
      · have f1 : inP p x = false := by cases t : inP p x; rfl; have := ((inP_iff _ _).1 t).2; omega
        rw [f1, Bool.false_or, Bool.false_or] at hx; exact hx)
    rw [this]
/-- Two sets of which the same holds are one. -/
theorem IsSet.eq {r s : List R} {f g : Int → Bool} (hr : IsSet r f) (hs : IsSet s g) (h : ∀ x, code x = true → f x = g x) : r = s := by
  refine can_ext r s 0 (Int.le_refl _) hr.1 hs.1 (fun x => ?_)
  cases hc : code x
  · simp [has, hc]
  · rw [hr.2 x hc, hs.2 x hc, h x hc]
theorem IsSet.congr {r : List R} {f g : Int → Bool} (h : IsSet r f) (e : ∀ x, code x = true → f x = g x) : IsSet r g := ⟨h.1, fun x hc => (h.2 x hc).trans (e x hc)⟩
theorem IsSet.hasEq {r : List R} {f : Int → Bool} (h : IsSet r f) (x : Int) : has r x = (code x && f x) := by
  cases hc : code x
  · simp [has, hc]
  · rw [h.2 x hc]; rfl
theorem IsSet.self {r : List R} (h : CanF 0 r) : IsSet r (has r) := ⟨h, fun _ _ => rfl⟩

theorem can_snoc : ∀ (l : List R) (lo : Int) (q : R), CanF lo (l ++ [q]) ↔ CanF lo l ∧ nxt lo l ≤ q.1 ∧ q.1 ≤ q.2 ∧ q.2 ≤ 1114111
  | [], lo, q => by simp [CanF, nxt]
  | p :: l, lo, q => by rw [List.cons_append, CanF, CanF, nxt, can_snoc l]; constructor <;> (rintro ⟨a, b⟩; simp_all)
theorem nxt_snoc : ∀ (l : List R) (lo : Int) (q : R), nxt lo (l ++ [q]) = q.2 + 2
  | [], lo, q => rfl
  | p :: l, lo, q => by rw [List.cons_append, nxt, nxt_snoc l]
theorem nxt_ge : ∀ (l : List R) (lo : Int), CanF lo l → lo ≤ nxt lo l
  | [], lo, _ => Int.le_refl _
  | p :: l, lo, h => by obtain ⟨h1, h2, h3, h4⟩ := h; have := nxt_ge l _ h4; rw [nxt]; omega
theorem can_length : ∀ (l : List R) (lo : Int), CanF lo l → lo + 2 * l.length ≤ nxt lo l
  | [], lo, _ => by simp [nxt]
  | p :: l, lo, h => by obtain ⟨h1, h2, h3, h4⟩ := h; have := can_length l _ h4; rw [nxt]; simp; omega
theorem nxt_le : ∀ (l : List R) (lo : Int), lo ≤ 1114113 → CanF lo l → nxt lo l ≤ 1114113
  | [], lo, h0, _ => h0
  | p :: l, lo, h0, h => by obtain ⟨h1, h2, h3, h4⟩ := h; rw [nxt]; exact nxt_le l _ (by omega) h4
/-- A set has so many ranges at most. -/
theorem can_len {l : List R} (h : CanF 0 l) : l.length ≤ 557056 := by
  have h1 := can_length l 0 h; have h2 := nxt_le l 0 (by omega) h; omega
theorem can_hi {l : List R} {lo x : Int} (h : CanF lo l) (hx : has l x = true) : x + 2 ≤ nxt lo l := by
  induction l generalizing lo with
  | nil => rw [has_nil] at hx; cases hx
  | cons p r ih =>
    obtain ⟨h1, h2, h3, h4⟩ := h
    rw [has_cons, Bool.or_eq_true, Bool.and_eq_true, inP_iff] at hx
    rw [nxt]
    rcases hx with hx | hx
    · have := nxt_ge r _ h4; omega
    · exact ih h4 hx
theorem can_mem {l : List R} {lo : Int} (h0 : 0 ≤ lo) (h : CanF lo l) : ∀ p ∈ l, 0 ≤ p.1 ∧ p.1 ≤ p.2 ∧ p.2 ≤ 1114111 := by
  induction l generalizing lo with
  | nil => intro p hp; cases hp
  | cons q r ih =>
    obtain ⟨h1, h2, h3, h4⟩ := h
    intro p hp
    rcases List.mem_cons.1 hp with rfl | hp
    · omega
    · exact ih (by omega) h4 p hp

/-- What a range is cut to, and which ranges mean something. -/
def clip (p : R) : R := (max p.1 0, min p.2 1114111)
def usable (l : List R) : List R := (l.map clip).filter fun p => decide (p.1 ≤ p.2)
theorem has_usable (l : List R) (x : Int) : has (usable l) x = has l x := by
  induction l with
  | nil => rfl
  | cons p l ih =>
    unfold usable at ih ⊢
    rw [List.map_cons, List.filter_cons]
    split
    · rw [has_cons, has_cons, ih]
      congr 1
      rw [Bool.eq_iff_iff]; simp only [Bool.and_eq_true, code_iff, inP_iff, clip]; omega
    · rename_i hn
      rw [has_cons, ih]
      have : (code x && inP p x) = false := by
        rw [Bool.eq_false_iff]; intro h; simp only [Bool.and_eq_true, code_iff, inP_iff] at h
        have hn' : ¬ max p.1 0 ≤ min p.2 1114111 := fun e => hn (decide_eq_true e)
        omega
      rw [this, Bool.false_or]
theorem usable_mem {l : List R} : ∀ p ∈ usable l, 0 ≤ p.1 ∧ p.1 ≤ p.2 ∧ p.2 ≤ 1114111 := by
  intro p hp
  unfold usable at hp
  rw [List.mem_filter, List.mem_map] at hp
  obtain ⟨⟨q, _, rfl⟩, h⟩ := hp
  have h' : max q.1 0 ≤ min q.2 1114111 := of_decide_eq_true h
  simp only [clip]; omega
theorem usable_length (l : List R) : (usable l).length ≤ l.length := by
  unfold usable; have := List.length_filter_le (fun p : R => decide (p.1 ≤ p.2)) (l.map clip); simpa using this
theorem usable_snoc (l : List R) (p : R) : usable (l ++ [p]) = usable l ++ (if (clip p).1 ≤ (clip p).2 then [clip p] else []) := by
  unfold usable; rw [List.map_append, List.filter_append, List.map_singleton, List.filter_cons, List.filter_nil]; simp
theorem has_perm {l m : List R} (h : l.Perm m) (x : Int) : has l x = has m x := by
  rw [Bool.eq_iff_iff, has_iff, has_iff]; simp only [h.mem_iff]

/-- How Make goes on: p: what was gone through; out: its set; rest: what is left. -/
structure MkInv (p out rest : List R) : Prop where
  can : CanF 0 out
  same : ∀ x, has out x = has p x
  last : ∀ i q, out = i ++ [q] → ∀ y ∈ rest, q.1 ≤ y.1
  good : ∀ y ∈ rest, 0 ≤ y.1 ∧ y.1 ≤ y.2 ∧ y.2 ≤ 1114111
  rise : rest.Pairwise fun a b => a.1 ≤ b.1
theorem MkInv.start {s : List R} (h : s.Pairwise fun a b => a.1 ≤ b.1) (hg : ∀ y ∈ s, 0 ≤ y.1 ∧ y.1 ≤ y.2 ∧ y.2 ≤ 1114111) : MkInv [] [] s :=
  ⟨trivial, fun _ => rfl, fun i q h => by simp at h, hg, h⟩
theorem snoc_inj {i j : List R} {p q : R} (h : i ++ [p] = j ++ [q]) : i = j ∧ p = q := by
  have := List.append_inj' h rfl
  exact ⟨this.1, by simpa using this.2⟩
theorem MkInv.new {p out rest : List R} {x : R} (h : MkInv p out (x :: rest)) (hn : ∀ i q, out = i ++ [q] → q.2 + 1 < x.1) : MkInv (p ++ [x]) (out ++ [x]) rest := by
  have hx := h.good x (by simp)
  refine ⟨(can_snoc _ _ _).2 ⟨h.can, ?_, hx.2.1, hx.2.2⟩, fun y => by rw [has_append, has_append, h.same], fun i q e y hy => ?_, fun y hy => h.good y (by simp [hy]), (List.pairwise_cons.1 h.rise).2⟩
  · rcases List.eq_nil_or_concat out with rfl | ⟨i, q, rfl⟩
    · simp [nxt]; exact hx.1
    · rw [List.concat_eq_append] at hn ⊢; rw [nxt_snoc]; have := hn i q rfl; omega
  · obtain ⟨_, rfl⟩ := snoc_inj e
    exact (List.pairwise_cons.1 h.rise).1 y hy
theorem MkInv.join {p i rest : List R} {q x : R} (h : MkInv p (i ++ [q]) (x :: rest)) (hn : x.1 ≤ q.2 + 1) : MkInv (p ++ [x]) (i ++ [(q.1, max q.2 x.2)]) rest := by
  have hx := h.good x (by simp)
  obtain ⟨c1, c2, c3, c4⟩ := (can_snoc _ _ _).1 h.can
  have hq : q.1 ≤ x.1 := h.last i q rfl x (by simp)
  have hq0 : 0 ≤ q.1 := by have := nxt_ge i 0 c1; omega
  refine ⟨(can_snoc _ _ _).2 ⟨c1, c2, by simp only; omega, by simp only; omega⟩, fun y => ?_, fun j r e y hy => ?_, fun y hy => h.good y (by simp [hy]), (List.pairwise_cons.1 h.rise).2⟩
  · rw [has_append, has_append, ← h.same y, has_append, Bool.or_assoc]
    congr 1
    simp only [has_cons, has_nil, Bool.or_false]
    rw [Bool.eq_iff_iff]; simp only [Bool.and_eq_true, Bool.or_eq_true, code_iff, inP_iff]; omega
  · obtain ⟨_, rfl⟩ := snoc_inj e
    exact h.last i q rfl y (by simp [hy])
theorem MkInv.done {p out : List R} (h : MkInv p out []) : IsSet out (has p) := ⟨h.can, fun x _ => h.same x⟩
end Go.Proofs.YtjbcapnpknbbaaaGreat.rng
end

section
/- Plain mathematics of sets of code points, further: a set's edges, the sweep over two sets' edges, the document's edges, sizes (no program). -/
set_option linter.unusedVariables false
set_option linter.unusedSimpArgs false
namespace Go.Proofs.YtjbcapnpknbbaaaGreat.rng

/-- Where a set begins, and where it is left, in turns. -/
def ed (r : List R) : List Int := r.flatMap fun p => [p.1, p.2 + 1]
def eat (l : List Int) (i : Nat) : Int := l.getD i 1114113
/-- How many stand at x or ahead of it. -/
def cnt (l : List Int) (x : Int) : Nat := (l.filter fun y => decide (y ≤ x)).length
/-- Rising from lo on. -/
def RiseF : Int → List Int → Prop
  | _, [] => True
  | lo, a :: l => lo ≤ a ∧ RiseF (a + 1) l
theorem ed_cons (p : R) (r : List R) : ed (p :: r) = p.1 :: (p.2 + 1) :: ed r := rfl
theorem ed_snoc (r : List R) (p : R) : ed (r ++ [p]) = ed r ++ [p.1, p.2 + 1] := by simp [ed]
theorem ed_length (r : List R) : (ed r).length = 2 * r.length := by
  induction r with
  | nil => rfl
  | cons p r ih => rw [ed_cons]; simp; omega
theorem ed_rise : ∀ (r : List R) (lo : Int), CanF lo r → RiseF lo (ed r)
  | [], _, _ => trivial
  | p :: r, lo, h => by
    obtain ⟨h1, h2, h3, h4⟩ := h
    rw [ed_cons]
    exact ⟨h1, by omega, by rw [show p.2 + 1 + 1 = p.2 + 2 by omega]; exact ed_rise r _ h4⟩
theorem ed_le : ∀ (r : List R) (lo : Int), CanF lo r → ∀ y ∈ ed r, lo ≤ y ∧ y ≤ 1114112
  | [], _, _ => fun y h => by cases h
  | p :: r, lo, h => by
    obtain ⟨h1, h2, h3, h4⟩ := h
    rw [ed_cons]
    intro y hy
    rcases List.mem_cons.1 hy with rfl | hy
    · omega
    · rcases List.mem_cons.1 hy with rfl | hy
      · omega
      · have := ed_le r _ h4 y hy; omega
theorem cnt_cons (a : Int) (l : List Int) (x : Int) : cnt (a :: l) x = (if a ≤ x then 1 else 0) + cnt l x := by
  unfold cnt; rw [List.filter_cons]; split <;> split <;> simp_all <;> omega
theorem rise_mem : ∀ {l : List Int} {lo : Int}, RiseF lo l → ∀ y ∈ l, lo ≤ y
  | [], _, _ => fun y h => by cases h
  | a :: l, lo, h => by
    obtain ⟨h1, h2⟩ := h
    intro y hy
    rcases List.mem_cons.1 hy with rfl | hy
    · exact h1
    · have := rise_mem h2 y hy; omega
theorem cnt_zero {l : List Int} {lo x : Int} (h : RiseF lo l) (hx : x < lo) : cnt l x = 0 := by
  unfold cnt; rw [List.length_eq_zero_iff, List.filter_eq_nil_iff]
  intro y hy; have := rise_mem h y hy; simp; omega
theorem cnt_le (l : List Int) (x : Int) : cnt l x ≤ l.length := List.length_filter_le _ _
/-- The next edge behind x. -/
theorem cnt_lt : ∀ {l : List Int} {lo x : Int}, RiseF lo l → x ≤ 1114112 → x < eat l (cnt l x)
  | [], _, x, _, hx => by simp [eat, cnt]; omega
  | a :: l, lo, x, h, hx => by
    obtain ⟨h1, h2⟩ := h
    rw [cnt_cons]
    split
    · have := cnt_lt h2 hx; rw [Nat.add_comm]; simpa [eat] using this
    · rw [cnt_zero h2 (by omega)]; simp [eat]; omega
/-- Up to the next edge the count stands; at it, it is one more. -/
theorem cnt_stay : ∀ {l : List Int} {lo x y : Int}, RiseF lo l → x ≤ y → y < eat l (cnt l x) → cnt l y = cnt l x
  | [], _, x, y, _, _, _ => rfl
  | a :: l, lo, x, y, h, hxy, hy => by
    obtain ⟨h1, h2⟩ := h
    rw [cnt_cons] at hy ⊢
    rw [cnt_cons]
    by_cases hax : a ≤ x
    · rw [if_pos hax] at hy ⊢
      rw [if_pos (by omega)]
      have : y < eat l (cnt l x) := by rw [Nat.add_comm] at hy; simpa [eat] using hy
      rw [cnt_stay h2 hxy this]
    · rw [if_neg hax, cnt_zero h2 (by omega : x < a + 1)] at hy ⊢
      have e : eat (a :: l) (0 + 0) = a := by simp [eat]
      rw [e] at hy
      rw [if_neg (by omega), cnt_zero h2 (by omega)]
theorem cnt_step : ∀ {l : List Int} {lo x : Int}, RiseF lo l → cnt l x < l.length → cnt l (eat l (cnt l x)) = cnt l x + 1
  | [], _, x, _, h => by simp at h
  | a :: l, lo, x, h, hlt => by
    obtain ⟨h1, h2⟩ := h
    rw [cnt_cons] at hlt ⊢
    rw [cnt_cons]
    by_cases hax : a ≤ x
    · rw [if_pos hax] at hlt ⊢
      have e : eat (a :: l) (1 + cnt l x) = eat l (cnt l x) := by rw [Nat.add_comm]; simp [eat]
      have hl : cnt l x < l.length := by simp at hlt; omega
      have hm : eat l (cnt l x) ∈ l := by unfold eat; rw [List.getD_eq_getElem?_getD, List.getElem?_eq_getElem hl]; exact List.getElem_mem _
      have := rise_mem h2 _ hm
      rw [e, if_pos (by omega), cnt_step h2 hl]; omega
    · rw [if_neg hax, cnt_zero h2 (by omega)] at *
      have e : eat (a :: l) (0 + 0) = a := by simp [eat]
      rw [e, if_pos (Int.le_refl _), cnt_zero h2 (by omega)]
/-- In a set are those behind an odd number of its edges. -/
theorem has_cnt : ∀ (r : List R) (lo x : Int), 0 ≤ lo → CanF lo r → has r x = decide (cnt (ed r) x % 2 = 1)
  | [], _, x, _, _ => by simp [has_nil, cnt, ed]
  | p :: r, lo, x, h0, h => by
    rw [can_has h0 h]
    obtain ⟨h1, h2, h3, h4⟩ := h
    rw [ed_cons, cnt_cons, cnt_cons, has_cnt r _ x (by omega) h4]
    have hr := ed_rise r _ h4
    by_cases a : p.1 ≤ x
    · by_cases b : p.2 + 1 ≤ x
      · rw [if_pos a, if_pos b]
        have : inP p x = false := by cases t : inP p x; rfl; have := ((inP_iff _ _).1 t).2; omega
        rw [this, Bool.false_or]
        congr 1
        rw [← Nat.add_assoc]
        simp
      · rw [if_pos a, if_neg b, cnt_zero hr (by omega), (inP_iff p x).2 (by omega)]; simp
    · have : inP p x = false := by cases t : inP p x; rfl; have := ((inP_iff _ _).1 t).1; omega
      rw [if_neg a, if_neg (by omega), cnt_zero hr (by omega), this]; simp

/-- How the sweep goes on: pos: how far it is; i, k: how many edges of each lie there or ahead; out: what is told; lo: where an open range began. -/
structure CoInv (r s : List R) (K : Bool → Bool → Bool) (i k : Nat) (lo : Int) (ins : Bool) (out : List R) (pos : Int) : Prop where
  ci : i = cnt (ed r) pos
  ck : k = cnt (ed s) pos
  pb : -1 ≤ pos ∧ pos ≤ 1114112
  can : CanF 0 out
  now : ins = K (decide (i % 2 = 1)) (decide (k % 2 = 1))
  opn : ins = true → 0 ≤ lo ∧ lo ≤ pos ∧ nxt 0 out ≤ lo
  shut : ins = false → nxt 0 out ≤ pos + 1
  mem : ∀ x, 0 ≤ x → x ≤ pos → code x = true → K (has r x) (has s x) = (has out x || (ins && decide (lo ≤ x)))
theorem CoInv.start {r s : List R} {K : Bool → Bool → Bool} (hr : CanF 0 r) (hs : CanF 0 s) (hK : K false false = false) : CoInv r s K 0 0 0 false [] (-1) :=
  ⟨(cnt_zero (ed_rise r 0 hr) (by omega)).symm, (cnt_zero (ed_rise s 0 hs) (by omega)).symm, by omega, trivial, by simp [hK], fun h => (by cases h), fun _ => (by simp [nxt]), fun x h1 h2 => (by omega)⟩
theorem CoInv.len {r s K i k lo ins out pos} (h : CoInv r s K i k lo ins out pos) : i ≤ (ed r).length ∧ k ≤ (ed s).length := by
  rw [h.ci, h.ck]; exact ⟨cnt_le _ _, cnt_le _ _⟩
theorem eat_le {r : List R} (hr : CanF 0 r) {i : Nat} (h : i < (ed r).length) : eat (ed r) i ≤ 1114112 := by
  have hm : eat (ed r) i ∈ ed r := by unfold eat; rw [List.getD_eq_getElem?_getD, List.getElem?_eq_getElem h]; exact List.getElem_mem _
  exact (ed_le r 0 hr _ hm).2
theorem eat_end {l : List Int} {i : Nat} (h : l.length ≤ i) : eat l i = 1114113 := by
  unfold eat; rw [List.getD_eq_getElem?_getD, List.getElem?_eq_none h]; rfl
/-- The counts at the next place. -/
theorem cnt_at {r : List R} (hr : CanF 0 r) {i : Nat} {pos a : Int} (hi : i = cnt (ed r) pos) (hp : pos < a) (ha : a ≤ eat (ed r) i) (hm : a ≤ 1114112) : cnt (ed r) a = if eat (ed r) i = a then i + 1 else i := by
  have R0 := ed_rise r 0 hr
  split
  · rename_i e
    rw [← e, hi]
    refine cnt_step R0 ?_
    rw [← hi]
    have := cnt_le (ed r) pos
    rcases Nat.lt_or_ge i (ed r).length with h | h
    · exact h
    · rw [eat_end h] at e; omega
  · rename_i e
    rw [hi]
    refine cnt_stay R0 (by omega) ?_
    rw [← hi]; omega
/-- Between two places nothing turns. -/
theorem CoInv.gap {r s K i k lo ins out pos} (hr : CanF 0 r) (hs : CanF 0 s) (h : CoInv r s K i k lo ins out pos) {x : Int} (h1 : pos ≤ x) (h2 : x < eat (ed r) i) (h3 : x < eat (ed s) k) : K (has r x) (has s x) = ins := by
  rw [has_cnt r 0 x (Int.le_refl _) hr, has_cnt s 0 x (Int.le_refl _) hs, h.now]
  have e1 : cnt (ed r) x = i := by rw [h.ci]; exact cnt_stay (ed_rise r 0 hr) h1 (by rw [← h.ci]; exact h2)
  have e2 : cnt (ed s) x = k := by rw [h.ck]; exact cnt_stay (ed_rise s 0 hs) h1 (by rw [← h.ck]; exact h3)
  rw [e1, e2]
theorem CoInv.ahead {r s K i k lo ins out pos} (hr : CanF 0 r) (hs : CanF 0 s) (h : CoInv r s K i k lo ins out pos) : pos < eat (ed r) i ∧ pos < eat (ed s) k := by
  rw [h.ci, h.ck]; exact ⟨cnt_lt (ed_rise r 0 hr) h.pb.2, cnt_lt (ed_rise s 0 hs) h.pb.2⟩
/-- One step of the sweep. -/
theorem CoInv.step {r s K i k lo ins out pos} (hr : CanF 0 r) (hs : CanF 0 s) (h : CoInv r s K i k lo ins out pos) (hlt : i < (ed r).length ∨ k < (ed s).length) {a : Int} {i' k' : Nat} {b : Bool}
    (ha : a = min (eat (ed r) i) (eat (ed s) k)) (hi : i' = if eat (ed r) i = a then i + 1 else i) (hk : k' = if eat (ed s) k = a then k + 1 else k) (hb : b = K (decide (i' % 2 = 1)) (decide (k' % 2 = 1))) :
    0 ≤ a ∧ a ≤ 1114112 ∧ (ins = true → 0 ≤ lo ∧ lo < a) ∧ i' + k' > i + k ∧ CoInv r s K i' k' (if b && !ins then a else lo) b (if !b && ins then out ++ [(lo, a - 1)] else out) a := by
  obtain ⟨p1, p2⟩ := h.ahead hr hs
  have hm : a ≤ 1114112 := by
    rcases hlt with hl | hl
    · have := eat_le hr hl; omega
    · have := eat_le hs hl; omega
  have hpos := h.pb
  have ci := cnt_at hr h.ci (a := a) (by omega) (by omega) hm
  have ck := cnt_at hs h.ck (a := a) (by omega) (by omega) hm
  rw [← hi] at ci
  rw [← hk] at ck
  have now : K (has r a) (has s a) = b := by
    rw [has_cnt r 0 a (Int.le_refl _) hr, has_cnt s 0 a (Int.le_refl _) hs, ci, ck, hb]
  have gap : ∀ x, pos < x → x < a → K (has r x) (has s x) = ins := fun x h1 h2 => h.gap hr hs (by omega) (by omega) (by omega)
  have out0 : ∀ x, pos < x → has out x = false := fun x hx => by
    cases t : has out x
    · rfl
    · have := can_hi h.can t
      cases hins : ins
      · have := h.shut hins; omega
      · have := h.opn hins; omega
  have olo : ins = true → ∀ x, lo ≤ x → has out x = false := fun hins x hx => by
    cases t : has out x
    · rfl
    · have := can_hi h.can t
      have := h.opn hins; omega
  refine ⟨by omega, hm, fun hins => by have := h.opn hins; omega, ?_, ci.symm, ck.symm, by omega, ?_, hb, ?_, ?_, ?_⟩
  · rcases (show eat (ed r) i = a ∨ eat (ed s) k = a by omega) with e | e
    · rw [hi, hk, if_pos e]; split <;> omega
    · rw [hi, hk, if_pos e]; split <;> omega
  · cases b <;> cases hins : ins <;> simp
    · exact h.can
    · exact (can_snoc _ _ _).2 ⟨h.can, by have := h.opn hins; simp only; omega, by have := h.opn hins; simp only; omega, by simp only; omega⟩
    · exact h.can
    · exact h.can
  · rintro rfl
    cases hins : ins
    · have := h.shut hins; simp; omega
    · have := h.opn hins; simp; omega
  · rintro rfl
    cases hins : ins
    · have := h.shut hins; simp; omega
    · simp [nxt_snoc]; omega
  · intro x h0 hx hc
    by_cases hxp : x ≤ pos
    · have hm0 := h.mem x h0 hxp hc
      rw [hm0]
      cases b <;> cases hins : ins <;> simp
      · rw [has_append]
        congr 1
        have := h.opn hins
        simp only [has_cons, has_nil, Bool.or_false, hc, Bool.true_and]
        rw [Bool.eq_iff_iff, inP_iff]; simp; omega
      · omega
    · by_cases hxa : x = a
      · subst hxa
        rw [now]
        cases b <;> cases hins : ins <;> simp
        · exact out0 x (by omega)
        · rw [has_append, out0 x (by omega), has_cons, has_nil]
          have : inP (lo, x - 1) x = false := by cases t : inP (lo, x - 1) x; rfl; have := ((inP_iff _ _).1 t).2; simp only at this; omega
          rw [this]; simp
        · right; have := h.opn hins; omega
      · rw [gap x (by omega) (by omega)]
        cases b <;> cases hins : ins <;> simp
        · exact out0 x (by omega)
        · rw [has_append, out0 x (by omega), has_cons, has_nil, hc]
          have := h.opn hins
          rw [(inP_iff (lo, a - 1) x).2 (by simp only; omega)]; rfl
        · rw [out0 x (by omega)]; simp; omega
        · right; have := h.opn hins; omega
theorem CoInv.done {r s K i k lo ins out pos} (hr : CanF 0 r) (hs : CanF 0 s) (h : CoInv r s K i k lo ins out pos) (hK : K false false = false) (h1 : (ed r).length ≤ i) (h2 : (ed s).length ≤ k) : IsSet out (fun x => K (has r x) (has s x)) := by
  obtain ⟨l1, l2⟩ := h.len
  have e1 : i = (ed r).length := by omega
  have e2 : k = (ed s).length := by omega
  have hins : ins = false := by
    rw [h.now, e1, e2, ed_length, ed_length]
    have a1 : decide (2 * r.length % 2 = 1) = false := by simp
    have a2 : decide (2 * s.length % 2 = 1) = false := by simp
    rw [a1, a2, hK]
  refine ⟨h.can, fun x hc => ?_⟩
  have hcx := (code_iff x).1 hc
  show has out x = K (has r x) (has s x)
  by_cases hx : x ≤ pos
  · rw [h.mem x hcx.1 hx hc, hins]; simp
  · rw [h.gap hr hs (x := x) (by omega) (by rw [eat_end h1]; omega) (by rw [eat_end h2]; omega), hins]
    cases t : has out x
    · rfl
    · have := can_hi h.can t
      have := h.shut hins; omega

/-- How the document's sweep goes on: at: the place that is next; f: what is asked for; out: the set of all ahead of it. -/
structure BoInv (f : Int → Bool) (out : List R) (at_ : Int) : Prop where
  can : CanF 0 out
  nx : nxt 0 out ≤ at_ + 1
  mem : ∀ x, 0 ≤ x → x < at_ → has out x = f x
theorem BoInv.start (f : Int → Bool) : BoInv f [] 0 := ⟨trivial, by simp [nxt], fun x h1 h2 => by omega⟩
theorem BoInv.ahead {f out a} (h : BoInv f out a) {x : Int} (hx : a ≤ x) : has out x = false := by
  cases t : has out x
  · rfl
  · have := can_hi h.can t; have := h.nx; omega
theorem BoInv.skip {f out a b} (h : BoInv f out a) (hb : a ≤ b) (hf : ∀ x, a ≤ x → x < b → f x = false) : BoInv f out b :=
  ⟨h.can, by have := h.nx; omega, fun x h0 hx => by
    by_cases hxa : x < a
    · exact h.mem x h0 hxa
    · rw [h.ahead (by omega), hf x (by omega) hx]⟩
theorem BoInv.new {f out a b} (h : BoInv f out a) (h0 : 0 ≤ a) (hb : a < b) (hm : b ≤ 1114112) (hf : ∀ x, a ≤ x → x < b → f x = true) (hn : ∀ i q, out = i ++ [q] → q.2 ≠ a - 1) : BoInv f (out ++ [(a, b - 1)]) b := by
  refine ⟨(can_snoc _ _ _).2 ⟨h.can, ?_, by simp only; omega, by simp only; omega⟩, by rw [nxt_snoc]; simp only; omega, fun x hx0 hx => ?_⟩
  · rcases List.eq_nil_or_concat out with rfl | ⟨i, q, rfl⟩
    · simpa [nxt] using h0
    · rw [List.concat_eq_append] at hn ⊢
      have h1 := h.nx
      rw [List.concat_eq_append, nxt_snoc] at h1
      rw [nxt_snoc]; have := hn i q rfl; simp only; omega
  · rw [has_append, has_cons, has_nil]
    by_cases hxa : x < a
    · rw [h.mem x hx0 hxa]
      have : inP (a, b - 1) x = false := by cases t : inP (a, b - 1) x; rfl; have := ((inP_iff _ _).1 t).1; simp only at this; omega
      rw [this]; simp
    · rw [h.ahead (by omega), hf x (by omega) hx, (inP_iff (a, b - 1) x).2 (by simp only; omega), (code_iff x).2 (by omega)]; rfl
theorem BoInv.join {f i q a b} (h : BoInv f (i ++ [q]) a) (hb : a < b) (hm : b ≤ 1114112) (hf : ∀ x, a ≤ x → x < b → f x = true) (hq : q.2 = a - 1) : BoInv f (i ++ [(q.1, b - 1)]) b := by
  obtain ⟨c1, c2, c3, c4⟩ := (can_snoc _ _ _).1 h.can
  have hq0 : 0 ≤ q.1 := by have := nxt_ge i 0 c1; omega
  refine ⟨(can_snoc _ _ _).2 ⟨c1, c2, by simp only; omega, by simp only; omega⟩, by rw [nxt_snoc]; simp only; omega, fun x hx0 hx => ?_⟩
  by_cases hxa : x < a
  · rw [← h.mem x hx0 hxa, has_append, has_append]
    congr 1
    simp only [has_cons, has_nil, Bool.or_false]
    rw [Bool.eq_iff_iff]; simp only [Bool.and_eq_true, code_iff, inP_iff]; omega
  · rw [hf x (by omega) hx, has_append, has_cons, (inP_iff (q.1, b - 1) x).2 (by simp only; omega), (code_iff x).2 (by omega)]; simp
theorem BoInv.done {f out} (h : BoInv f out 1114112) : IsSet out f := ⟨h.can, fun x hc => by have := (code_iff x).1 hc; exact h.mem x (by omega) (by omega)⟩

/-- Two lists of ranges are as they are from a up to, not with, b, where no range begins or is left between. -/
theorem has_flat (l : List R) {a b : Int} (h0 : 0 ≤ a) (hb : b ≤ 1114112) (h1 : ∀ p ∈ l, ¬ (a < p.1 ∧ p.1 < b)) (h2 : ∀ p ∈ l, ¬ (a < p.2 + 1 ∧ p.2 + 1 < b)) {x : Int} (hx1 : a ≤ x) (hx2 : x < b) : has l x = has l a := by
  induction l with
  | nil => rw [has_nil, has_nil]
  | cons p l ih =>
    rw [has_cons, has_cons, ih (fun q hq => h1 q (by simp [hq])) (fun q hq => h2 q (by simp [hq]))]
    congr 1
    have a1 := h1 p (by simp)
    have a2 := h2 p (by simp)
    rw [Bool.eq_iff_iff]; simp only [Bool.and_eq_true, code_iff, inP_iff]; omega

/-- How many there are. -/
def tot (r : List R) : Int := (r.map fun p => p.2 - p.1 + 1).sum
theorem tot_snoc (r : List R) (p : R) : tot (r ++ [p]) = tot r + (p.2 - p.1 + 1) := by simp [tot]
theorem tot_cons (r : List R) (p : R) : tot (p :: r) = (p.2 - p.1 + 1) + tot r := by simp [tot]
def cn (f : Int → Bool) : Nat → Int
  | 0 => 0
  | n + 1 => cn f n + if f n then 1 else 0
theorem cn_congr {f g : Int → Bool} : ∀ n : Nat, (∀ x : Int, 0 ≤ x → x < n → f x = g x) → cn f n = cn g n
  | 0, _ => rfl
  | n + 1, h => by rw [cn, cn, cn_congr n (fun x h0 h1 => h x h0 (by omega)), h n (by omega) (by omega)]
theorem cn_both (f g : Int → Bool) : ∀ n : Nat, cn (fun x => f x || g x) n + cn (fun x => f x && g x) n = cn f n + cn g n
  | 0 => rfl
  | n + 1 => by
    have := cn_both f g n
    simp only [cn]
    by_cases h1 : f (n : Int) = true <;> by_cases h2 : g (n : Int) = true <;> simp [h1, h2] <;> omega
theorem cn_not (f : Int → Bool) : ∀ n : Nat, cn (fun x => !f x) n = n - cn f n
  | 0 => rfl
  | n + 1 => by
    have := cn_not f n
    simp only [cn]
    by_cases h1 : f (n : Int) = true <;> simp [h1] <;> omega
theorem cn_false : ∀ n : Nat, cn (fun _ => false) n = 0
  | 0 => rfl
  | n + 1 => by simp [cn, cn_false n]
theorem cn_inP (a b : Int) (h0 : 0 ≤ a) (h1 : a ≤ b) : ∀ n : Nat, cn (inP (a, b)) n = max 0 (min (n : Int) (b + 1) - a)
  | 0 => by simp [cn]; omega
  | n + 1 => by
    rw [cn, cn_inP a b h0 h1 n]
    cases t : inP (a, b) n
    · have : ¬ (a ≤ (n : Int) ∧ (n : Int) ≤ b) := fun h => by rw [(inP_iff (a, b) n).2 h] at t; cases t
      simp; omega
    · have := (inP_iff _ _).1 t
      simp only at this
      simp; omega
theorem tot_cn : ∀ (r : List R) (lo : Int) (n : Nat), 0 ≤ lo → CanF lo r → (1114112 : Int) ≤ n → tot r = cn (has r) n
  | [], _, n, _, _, _ => by rw [show has [] = fun _ => false from funext has_nil, cn_false]; rfl
  | p :: r, lo, n, h0, h, hn => by
    have e : has (p :: r) = fun x => inP p x || has r x := funext fun x => can_has h0 h
    obtain ⟨h1, h2, h3, h4⟩ := h
    have hb := cn_both (inP p) (has r) n
    have hz : cn (fun x => inP p x && has r x) n = 0 := by
      rw [cn_congr (g := fun _ => false) n (fun x _ _ => ?_), cn_false]
      cases t : has r x
      · simp
      · have := can_lo h4 t
        cases t2 : inP p x
        · rfl
        · have := ((inP_iff _ _).1 t2).2; omega
    have hp := cn_inP p.1 p.2 (by omega) h2 n
    have ih := tot_cn r _ n (by omega) h4 hn
    rw [tot_cons, e, ih]
    rw [hz] at hb
    have : inP (p.1, p.2) = inP p := rfl
    rw [this] at hp
    omega
theorem tot_le {r : List R} (h : CanF 0 r) : 0 ≤ tot r ∧ tot r ≤ nxt 0 r := by
  have : ∀ (r : List R) (lo : Int), CanF lo r → 0 ≤ tot r ∧ lo + tot r ≤ nxt lo r := by
    intro r
    induction r with
    | nil => intro lo _; simp [tot, nxt]
    | cons p r ih => intro lo h; obtain ⟨h1, h2, h3, h4⟩ := h; have := ih _ h4; rw [tot_cons, nxt]; omega
  have := this r 0 h; omega
/-- Sizes of a union and of what is common, together. -/
theorem tot_both {u m a b : List R} (hu : CanF 0 u) (hm : CanF 0 m) (ha : CanF 0 a) (hb : CanF 0 b) (h1 : ∀ x, has u x = (has a x || has b x)) (h2 : ∀ x, has m x = (has a x && has b x)) : tot u + tot m = tot a + tot b := by
  obtain ⟨n, hn⟩ : ∃ n : Nat, (1114112 : Int) ≤ n := ⟨1114112, by omega⟩
  rw [tot_cn u 0 n (by omega) hu hn, tot_cn m 0 n (by omega) hm hn, tot_cn a 0 n (by omega) ha hn, tot_cn b 0 n (by omega) hb hn, show has u = _ from funext h1, show has m = _ from funext h2]
  exact cn_both _ _ n
theorem tot_not {u a : List R} (hu : CanF 0 u) (ha : CanF 0 a) (h1 : ∀ x, has u x = (code x && !has a x)) : tot u = 1114112 - tot a := by
  obtain ⟨n, hn⟩ : ∃ n : Nat, (n : Int) = 1114112 := ⟨1114112, by omega⟩
  rw [tot_cn u 0 n (by omega) hu (by omega), tot_cn a 0 n (by omega) ha (by omega), cn_congr (g := fun x => !has a x) n (fun x h0 h2 => by rw [h1, (code_iff x).2 (by omega)]; rfl), cn_not, hn]
end Go.Proofs.YtjbcapnpknbbaaaGreat.rng
end
