/- Texts that the proof leans on, one behind the other. -/
import Derived.Test.YtnjomfmdogkhgaaGreatDoorBnd13

section
/- Plain mathematics of sets of code points, further: a set's edges, the sweep over two sets' edges, the document's edges, sizes (no program). -/
set_option linter.unusedVariables false
set_option linter.unusedSimpArgs false
namespace Go.Proofs.YtnjomfmdogkhgaaGreatDoor.rng

/-- Where a set begins, and where it is left, in turns. -/
def ed (r : List R) : List Int := r.flatMap fun p => [p.1, p.2 + 1]
def eat (l : List Int) (i : Nat) : Int := l.getD i 1114113
/-- How many stand at x or ahead of it. -/
def cnt (l : List Int) (x : Int) : Nat := (l.filter fun y => decide (y ≤ x)).length
/-- Rising from lo on. -/
def RiseF : Int → List Int → Prop
  | _, [] => True
  | lo, a :: l => lo ≤ a ∧ RiseF (a + 1) l
theorem ed_cons (p : R) (r : List R) : ed (p :: r) = p.1 :: (p.2 + 1) :: ed r := rfl
theorem ed_snoc (r : List R) (p : R) : ed (r ++ [p]) = ed r ++ [p.1, p.2 + 1] := by simp [ed]
theorem ed_length (r : List R) : (ed r).length = 2 * r.length := by
  induction r with
  | nil => rfl
  | cons p r ih => rw [ed_cons]; simp; omega
theorem ed_rise : ∀ (r : List R) (lo : Int), CanF lo r → RiseF lo (ed r)
  | [], _, _ => trivial
  | p :: r, lo, h => by
    obtain ⟨h1, h2, h3, h4⟩ := h
    rw [ed_cons]
    exact ⟨h1, by omega, by rw [show p.2 + 1 + 1 = p.2 + 2 by omega]; exact ed_rise r _ h4⟩
theorem ed_le : ∀ (r : List R) (lo : Int), CanF lo r → ∀ y ∈ ed r, lo ≤ y ∧ y ≤ 1114112
  | [], _, _ => fun y h => by cases h
  | p :: r, lo, h => by
    obtain ⟨h1, h2, h3, h4⟩ := h
    rw [ed_cons]
    intro y hy
    rcases List.mem_cons.1 hy with rfl | hy
    · omega
    · rcases List.mem_cons.1 hy with rfl | hy
      · omega
      · have := ed_le r _ h4 y hy; omega
theorem cnt_cons (a : Int) (l : List Int) (x : Int) : cnt (a :: l) x = (if a ≤ x then 1 else 0) + cnt l x := by
  unfold cnt; rw [List.filter_cons]; split <;> split <;> simp_all <;> omega
theorem rise_mem : ∀ {l : List Int} {lo : Int}, RiseF lo l → ∀ y ∈ l, lo ≤ y
  | [], _, _ => fun y h => by cases h
  | a :: l, lo, h => by
    obtain ⟨h1, h2⟩ := h
    intro y hy
    rcases List.mem_cons.1 hy with rfl | hy
    · exact h1
    · have := rise_mem h2 y hy; omega
theorem cnt_zero {l : List Int} {lo x : Int} (h : RiseF lo l) (hx : x < lo) : cnt l x = 0 := by
  unfold cnt; rw [List.length_eq_zero_iff, List.filter_eq_nil_iff]
  intro y hy; have := rise_mem h y hy; simp; omega
theorem cnt_le (l : List Int) (x : Int) : cnt l x ≤ l.length := List.length_filter_le _ _
/-- The next edge behind x. -/
theorem cnt_lt : ∀ {l : List Int} {lo x : Int}, RiseF lo l → x ≤ 1114112 → x < eat l (cnt l x)
  | [], _, x, _, hx => by simp [eat, cnt]; omega
  | a :: l, lo, x, h, hx => by
    obtain ⟨h1, h2⟩ := h
    rw [cnt_cons]
    split
    · have := cnt_lt h2 hx; rw [Nat.add_comm]; simpa [eat] using this
    · rw [cnt_zero h2 (by omega)]; simp [eat]; omega
/-- Up to the next edge the count stands; at it, it is one more. -/
theorem cnt_stay : ∀ {l : List Int} {lo x y : Int}, RiseF lo l → x ≤ y → y < eat l (cnt l x) → cnt l y = cnt l x
  | [], _, x, y, _, _, _ => rfl
  | a :: l, lo, x, y, h, hxy, hy => by
    obtain ⟨h1, h2⟩ := h
    rw [cnt_cons] at hy ⊢
    rw [cnt_cons]
    by_cases hax : a ≤ x
    · rw [if_pos hax] at hy ⊢
      rw [if_pos (by omega)]
      have : y < eat l (cnt l x) := by rw [Nat.add_comm] at hy; simpa [eat] using hy
      rw [cnt_stay h2 hxy this]
    · rw [if_neg hax, cnt_zero h2 (by omega : x < a + 1)] at hy ⊢
      have e : eat (a :: l) (0 + 0) = a := by simp [eat]
      rw [e] at hy
      rw [if_neg (by omega), cnt_zero h2 (by omega)]
theorem cnt_step : ∀ {l : List Int} {lo x : Int}, RiseF lo l → cnt l x < l.length → cnt l (eat l (cnt l x)) = cnt l x + 1
  | [], _, x, _, h => by simp at h
  | a :: l, lo, x, h, hlt => by
    obtain ⟨h1, h2⟩ := h
    rw [cnt_cons] at hlt ⊢
    rw [cnt_cons]
    by_cases hax : a ≤ x
    · rw [if_pos hax] at hlt ⊢
      have e : eat (a :: l) (1 + cnt l x) = eat l (cnt l x) := by rw [Nat.add_comm]; simp [eat]
      have hl : cnt l x < l.length := by simp at hlt; omega
      have hm : eat l (cnt l x) ∈ l := by unfold eat; rw [List.getD_eq_getElem?_getD, List.getElem?_eq_getElem hl]; exact List.getElem_mem _
      have := rise_mem h2 _ hm
      rw [e, if_pos (by omega), cnt_step h2 hl]; omega
    · rw [if_neg hax, cnt_zero h2 (by omega)] at *
      have e : eat (a :: l) (0 + 0) = a := by simp [eat]
      rw [e, if_pos (Int.le_refl _), cnt_zero h2 (by omega)]
/-- In a set are those behind an odd number of its edges. -/
theorem has_cnt : ∀ (r : List R) (lo x : Int), 0 ≤ lo → CanF lo r → has r x = decide (cnt (ed r) x % 2 = 1)
  | [], _, x, _, _ => by simp [has_nil, cnt, ed]
  | p :: r, lo, x, h0, h => by
    rw [can_has h0 h]
    obtain ⟨h1, h2, h3, h4⟩ := h
    rw [ed_cons, cnt_cons, cnt_cons, has_cnt r _ x (by omega) h4]
    have hr := ed_rise r _ h4
    by_cases a : p.1 ≤ x
    · by_cases b : p.2 + 1 ≤ x
      · rw [if_pos a, if_pos b]
        have : inP p x = false := by cases t : inP p x; rfl; have := ((inP_iff _ _).1 t).2; omega
        rw [this, Bool.false_or]
        congr 1
        rw [← Nat.add_assoc]
        simp
      · rw [if_pos a, if_neg b, cnt_zero hr (by omega), (inP_iff p x).2 (by omega)]; simp
    · have : inP p x = false := by cases t : inP p x; rfl; have := ((inP_iff _ _).1 t).1; omega
      rw [if_neg a, if_neg (by omega), cnt_zero hr (by omega), this]; simp

/-- How the sweep goes on: pos: how far it is; i, k: how many edges of each lie there or ahead; out: what is told; lo: where an open range began. -/
structure CoInv (r s : List R) (K : Bool → Bool → Bool) (i k : Nat) (lo : Int) (ins : Bool) (out : List R) (pos : Int) : Prop where
  ci : i = cnt (ed r) pos
  ck : k = cnt (ed s) pos
  pb : -1 ≤ pos ∧ pos ≤ 1114112
  can : CanF 0 out
  now : ins = K (decide (i % 2 = 1)) (decide (k % 2 = 1))
  opn : ins = true → 0 ≤ lo ∧ lo ≤ pos ∧ nxt 0 out ≤ lo
  shut : ins = false → nxt 0 out ≤ pos + 1
  mem : ∀ x, 0 ≤ x → x ≤ pos → code x = true → K (has r x) (has s x) = (has out x || (ins && decide (lo ≤ x)))
theorem CoInv.start {r s : List R} {K : Bool → Bool → Bool} (hr : CanF 0 r) (hs : CanF 0 s) (hK : K false false = false) : CoInv r s K 0 0 0 false [] (-1) :=
  ⟨(cnt_zero (ed_rise r 0 hr) (by omega)).symm, (cnt_zero (ed_rise s 0 hs) (by omega)).symm, by omega, trivial, by simp [hK], fun h => (by cases h), fun _ => (by simp [nxt]), fun x h1 h2 => (by omega)⟩
theorem CoInv.len {r s K i k lo ins out pos} (h : CoInv r s K i k lo ins out pos) : i ≤ (ed r).length ∧ k ≤ (ed s).length := by
  rw [h.ci, h.ck]; exact ⟨cnt_le _ _, cnt_le _ _⟩
theorem eat_le {r : List R} (hr : CanF 0 r) {i : Nat} (h : i < (ed r).length) : eat (ed r) i ≤ 1114112 := by
  have hm : eat (ed r) i ∈ ed r := by unfold eat; rw [List.getD_eq_getElem?_getD, List.getElem?_eq_getElem h]; exact List.getElem_mem _
  exact (ed_le r 0 hr _ hm).2
theorem eat_end {l : List Int} {i : Nat} (h : l.length ≤ i) : eat l i = 1114113 := by
  unfold eat; rw [List.getD_eq_getElem?_getD, List.getElem?_eq_none h]; rfl
/-- The counts at the next place. -/
theorem cnt_at {r : List R} (hr : CanF 0 r) {i : Nat} {pos a : Int} (hi : i = cnt (ed r) pos) (hp : pos < a) (ha : a ≤ eat (ed r) i) (hm : a ≤ 1114112) : cnt (ed r) a = if eat (ed r) i = a then i + 1 else i := by
  have R0 := ed_rise r 0 hr
  split
  · rename_i e
    rw [← e, hi]
    refine cnt_step R0 ?_
    rw [← hi]
    have := cnt_le (ed r) pos
    rcases Nat.lt_or_ge i (ed r).length with h | h
    · exact h
    · rw [eat_end h] at e; omega
  · rename_i e
    rw [hi]
    refine cnt_stay R0 (by omega) ?_
    rw [← hi]; omega
/-- Between two places nothing turns. -/
theorem CoInv.gap {r s K i k lo ins out pos} (hr : CanF 0 r) (hs : CanF 0 s) (h : CoInv r s K i k lo ins out pos) {x : Int} (h1 : pos ≤ x) (h2 : x < eat (ed r) i) (h3 : x < eat (ed s) k) : K (has r x) (has s x) = ins := by
  rw [has_cnt r 0 x (Int.le_refl _) hr, has_cnt s 0 x (Int.le_refl _) hs, h.now]
  have e1 : cnt (ed r) x = i := by rw [h.ci]; exact cnt_stay (ed_rise r 0 hr) h1 (by rw [← h.ci]; exact h2)
  have e2 : cnt (ed s) x = k := by rw [h.ck]; exact cnt_stay (ed_rise s 0 hs) h1 (by rw [← h.ck]; exact h3)
  rw [e1, e2]
theorem CoInv.ahead {r s K i k lo ins out pos} (hr : CanF 0 r) (hs : CanF 0 s) (h : CoInv r s K i k lo ins out pos) : pos < eat (ed r) i ∧ pos < eat (ed s) k := by
  rw [h.ci, h.ck]; exact ⟨cnt_lt (ed_rise r 0 hr) h.pb.2, cnt_lt (ed_rise s 0 hs) h.pb.2⟩
/-- One step of the sweep. -/
theorem CoInv.step {r s K i k lo ins out pos} (hr : CanF 0 r) (hs : CanF 0 s) (h : CoInv r s K i k lo ins out pos) (hlt : i < (ed r).length ∨ k < (ed s).length) {a : Int} {i' k' : Nat} {b : Bool}
    (ha : a = min (eat (ed r) i) (eat (ed s) k)) (hi : i' = if eat (ed r) i = a then i + 1 else i) (hk : k' = if eat (ed s) k = a then k + 1 else k) (hb : b = K (decide (i' % 2 = 1)) (decide (k' % 2 = 1))) :
    0 ≤ a ∧ a ≤ 1114112 ∧ (ins = true → 0 ≤ lo ∧ lo < a) ∧ i' + k' > i + k ∧ CoInv r s K i' k' (if b && !ins then a else lo) b (if !b && ins then out ++ [(lo, a - 1)] else out) a := by
  obtain ⟨p1, p2⟩ := h.ahead hr hs
  have hm : a ≤ 1114112 := by
    rcases hlt with hl | hl
    · have := eat_le hr hl; omega
    · have := eat_le hs hl; omega
  have hpos := h.pb
  have ci := cnt_at hr h.ci (a := a) (by omega) (by omega) hm
  have ck := cnt_at hs h.ck (a := a) (by omega) (by omega) hm
  rw [← hi] at ci
  rw [← hk] at ck
  have now : K (has r a) (has s a) = b := by
    rw [has_cnt r 0 a (Int.le_refl _) hr, has_cnt s 0 a (Int.le_refl _) hs, ci, ck, hb]
  have gap : ∀ x, pos < x → x < a → K (has r x) (has s x) = ins := fun x h1 h2 => h.gap hr hs (by omega) (by omega) (by omega)
  have out0 : ∀ x, pos < x → has out x = false := fun x hx => by
    cases t : has out x
    · rfl
    · have := can_hi h.can t
      cases hins : ins
      · have := h.shut hins; omega
      · have := h.opn hins; omega
  have olo : ins = true → ∀ x, lo ≤ x → has out x = false := fun hins x hx => by
    cases t : has out x
    · rfl
    · have := can_hi h.can t
      have := h.opn hins; omega
  refine ⟨by omega, hm, fun hins => by have := h.opn hins; omega, ?_, ci.symm, ck.symm, by omega, ?_, hb, ?_, ?_, ?_⟩
  · rcases (show eat (ed r) i = a ∨ eat (ed s) k = a by omega) with e | e
    · rw [hi, hk, if_pos e]; split <;> omega
    · rw [hi, hk, if_pos e]; split <;> omega
  · cases b <;> cases hins : ins <;> simp
    · exact h.can
    · exact (can_snoc _ _ _).2 ⟨h.can, by have := h.opn hins; simp only; omega, by have := h.opn hins; simp only; omega, by simp only; omega⟩
    · exact h.can
    · exact h.can
  · rintro rfl
    cases hins : ins
    · have := h.shut hins; simp; omega
    · have := h.opn hins; simp; omega
  · rintro rfl
    cases hins : ins
    · have := h.shut hins; simp; omega
    · simp [nxt_snoc]; omega
  · intro x h0 hx hc
    by_cases hxp : x ≤ pos
    · have hm0 := h.mem x h0 hxp hc
      rw [hm0]
      cases b <;> cases hins : ins <;> simp
      · rw [has_append]
        congr 1
        have := h.opn hins
        simp only [has_cons, has_nil, Bool.or_false, hc, Bool.true_and]
        rw [Bool.eq_iff_iff, inP_iff]; simp; omega
      · omega
    · by_cases hxa : x = a
      · subst hxa
        rw [now]
        cases b <;> cases hins : ins <;> simp
        · exact out0 x (by omega)
        · rw [has_append, out0 x (by omega), has_cons, has_nil]
          have : inP (lo, x - 1) x = false := by cases t : inP (lo, x - 1) x; rfl; have := ((inP_iff _ _).1 t).2; simp only at this; omega
          rw [this]; simp
        · right; have := h.opn hins; omega
      · rw [gap x (by omega) (by omega)]
        cases b <;> cases hins : ins <;> simp
        · exact out0 x (by omega)
        · rw [has_append, out0 x (by omega), has_cons, has_nil, hc]
          have := h.opn hins
          rw [(inP_iff (lo, a - 1) x).2 (by simp only; omega)]; rfl
        · rw [out0 x (by omega)]; simp; omega
        · right; have := h.opn hins; omega
theorem CoInv.done {r s K i k lo ins out pos} (hr : CanF 0 r) (hs : CanF 0 s) (h : CoInv r s K i k lo ins out pos) (hK : K false false = false) (h1 : (ed r).length ≤ i) (h2 : (ed s).length ≤ k) : IsSet out (fun x => K (has r x) (has s x)) := by
  obtain ⟨l1, l2⟩ := h.len
  have e1 : i = (ed r).length := by omega
  have e2 : k = (ed s).length := by omega
  have hins : ins = false := by
    rw [h.now, e1, e2, ed_length, ed_length]
    have a1 : decide (2 * r.length % 2 = 1) = false := by simp
    have a2 : decide (2 * s.length % 2 = 1) = false := by simp
    rw [a1, a2, hK]
  refine ⟨h.can, fun x hc => ?_⟩
  have hcx := (code_iff x).1 hc
  show has out x = K (has r x) (has s x)
  by_cases hx : x ≤ pos
  · rw [h.mem x hcx.1 hx hc, hins]; simp
  · rw [h.gap hr hs (x := x) (by omega) (by rw [eat_end h1]; omega) (by rw [eat_end h2]; omega), hins]
    cases t : has out x
    · rfl
    · have := can_hi h.can t
      have := h.shut hins; omega

/-- How the document's sweep goes on: at: the place that is next; f: what is asked for; out: the set of all ahead of it. -/
structure BoInv (f : Int → Bool) (out : List R) (at_ : Int) : Prop where
  can : CanF 0 out
  nx : nxt 0 out ≤ at_ + 1
  mem : ∀ x, 0 ≤ x → x < at_ → has out x = f x
theorem BoInv.start (f : Int → Bool) : BoInv f [] 0 := ⟨trivial, by simp [nxt], fun x h1 h2 => by omega⟩
theorem BoInv.ahead {f out a} (h : BoInv f out a) {x : Int} (hx : a ≤ x) : has out x = false := by
  cases t : has out x
  · rfl
  · have := can_hi h.can t; have := h.nx; omega
theorem BoInv.skip {f out a b} (h : BoInv f out a) (hb : a ≤ b) (hf : ∀ x, a ≤ x → x < b → f x = false) : BoInv f out b :=
  ⟨h.can, by have := h.nx; omega, fun x h0 hx => by
    by_cases hxa : x < a
    · exact h.mem x h0 hxa
    · rw [h.ahead (by omega), hf x (by omega) hx]⟩
theorem BoInv.new {f out a b} (h : BoInv f out a) (h0 : 0 ≤ a) (hb : a < b) (hm : b ≤ 1114112) (hf : ∀ x, a ≤ x → x < b → f x = true) (hn : ∀ i q, out = i ++ [q] → q.2 ≠ a - 1) : BoInv f (out ++ [(a, b - 1)]) b := by
  refine ⟨(can_snoc _ _ _).2 ⟨h.can, ?_, by simp only; omega, by simp only; omega⟩, by rw [nxt_snoc]; simp only; omega, fun x hx0 hx => ?_⟩
  · rcases List.eq_nil_or_concat out with rfl | ⟨i, q, rfl⟩
    · simpa [nxt] using h0
    · rw [List.concat_eq_append] at hn ⊢
      have h1 := h.nx
      rw [List.concat_eq_append, nxt_snoc] at h1
      rw [nxt_snoc]; have := hn i q rfl; simp only; omega
  · rw [has_append, has_cons, has_nil]
    by_cases hxa : x < a
    · rw [h.mem x hx0 hxa]
      have : inP (a, b - 1) x = false := by cases t : inP (a, b - 1) x; rfl; have := ((inP_iff _ _).1 t).1; simp only at this; omega
      rw [this]; simp
    · rw [h.ahead (by omega), hf x (by omega) hx, (inP_iff (a, b - 1) x).2 (by simp only; omega), (code_iff x).2 (by omega)]; rfl
theorem BoInv.join {f i q a b} (h : BoInv f (i ++ [q]) a) (hb : a < b) (hm : b ≤ 1114112) (hf : ∀ x, a ≤ x → x < b → f x = true) (hq : q.2 = a - 1) : BoInv f (i ++ [(q.1, b - 1)]) b := by
  obtain ⟨c1, c2, c3, c4⟩ := (can_snoc _ _ _).1 h.can
  have hq0 : 0 ≤ q.1 := by have := nxt_ge i 0 c1; omega
  refine ⟨(can_snoc _ _ _).2 ⟨c1, c2, by simp only; omega, by simp only; omega⟩, by rw [nxt_snoc]; simp only; omega, fun x hx0 hx => ?_⟩
  by_cases hxa : x < a
  · rw [← h.mem x hx0 hxa, has_append, has_append]
    congr 1
    simp only [has_cons, has_nil, Bool.or_false]
    rw [Bool.eq_iff_iff]; simp only [Bool.and_eq_true, code_iff, inP_iff]; omega
  · rw [hf x (by omega) hx, has_append, has_cons, (inP_iff (q.1, b - 1) x).2 (by simp only; omega), (code_iff x).2 (by omega)]; simp
theorem BoInv.done {f out} (h : BoInv f out 1114112) : IsSet out f := ⟨h.can, fun x hc => by have := (code_iff x).1 hc; exact h.mem x (by omega) (by omega)⟩

/-- Two lists of ranges are as they are from a up to, not with, b, where no range begins or is left between. -/
theorem has_flat (l : List R) {a b : Int} (h0 : 0 ≤ a) (hb : b ≤ 1114112) (h1 : ∀ p ∈ l, ¬ (a < p.1 ∧ p.1 < b)) (h2 : ∀ p ∈ l, ¬ (a < p.2 + 1 ∧ p.2 + 1 < b)) {x : Int} (hx1 : a ≤ x) (hx2 : x < b) : has l x = has l a := by
  induction l with
  | nil => rw [has_nil, has_nil]
  | cons p l ih =>
    rw [has_cons, has_cons, ih (fun q hq => h1 q (by simp [hq])) (fun q hq => h2 q (by simp [hq]))]
    congr 1
    have a1 := h1 p (by simp)
    have a2 := h2 p (by simp)
    rw [Bool.eq_iff_iff]; simp only [Bool.and_eq_true, code_iff, inP_iff]; omega

/-- How many there are. -/
def tot (r : List R) : Int := (r.map fun p => p.2 - p.1 + 1).sum
theorem tot_snoc (r : List R) (p : R) : tot (r ++ [p]) = tot r + (p.2 - p.1 + 1) := by simp [tot]
theorem tot_cons (r : List R) (p : R) : tot (p :: r) = (p.2 - p.1 + 1) + tot r := by simp [tot]
def cn (f : Int → Bool) : Nat → Int
  | 0 => 0
  | n + 1 => cn f n + if f n then 1 else 0
theorem cn_congr {f g : Int → Bool} : ∀ n : Nat, (∀ x : Int, 0 ≤ x → x < n → f x = g x) → cn f n = cn g n
  | 0, _ => rfl
  | n + 1, h => by rw [cn, cn, cn_congr n (fun x h0 h1 => h x h0 (by omega)), h n (by omega) (by omega)]
theorem cn_both (f g : Int → Bool) : ∀ n : Nat, cn (fun x => f x || g x) n + cn (fun x => f x && g x) n = cn f n + cn g n
  | 0 => rfl
  | n + 1 => by
    have := cn_both f g n
    simp only [cn]
    by_cases h1 : f (n : Int) = true <;> by_cases h2 : g (n : Int) = true <;> simp [h1, h2] <;> omega
theorem cn_not (f : Int → Bool) : ∀ n : Nat, cn (fun x => !f x) n = n - cn f n
  | 0 => rfl
  | n + 1 => by
    have := cn_not f n
    simp only [cn]
    by_cases h1 : f (n : Int) = true <;> simp [h1] <;> omega
theorem cn_false : ∀ n : Nat, cn (fun _ => false) n = 0
  | 0 => rfl
  | n + 1 => by simp [cn, cn_false n]
theorem cn_inP (a b : Int) (h0 : 0 ≤ a) (h1 : a ≤ b) : ∀ n : Nat, cn (inP (a, b)) n = max 0 (min (n : Int) (b + 1) - a)
  | 0 => by simp [cn]; omega
  | n + 1 => by
    rw [cn, cn_inP a b h0 h1 n]
    cases t : inP (a, b) n
    · have : ¬ (a ≤ (n : Int) ∧ (n : Int) ≤ b) := fun h => by rw [(inP_iff (a, b) n).2 h] at t; cases t
      simp; omega
    · have := (inP_iff _ _).1 t
      simp only at this
      simp; omega
theorem tot_cn : ∀ (r : List R) (lo : Int) (n : Nat), 0 ≤ lo → CanF lo r → (1114112 : Int) ≤ n → tot r = cn (has r) n
  | [], _, n, _, _, _ => by rw [show has [] = fun _ => false from funext has_nil, cn_false]; rfl
  | p :: r, lo, n, h0, h, hn => by
    have e : has (p :: r) = fun x => inP p x || has r x := funext fun x => can_has h0 h
    obtain ⟨h1, h2, h3, h4⟩ := h
    have hb := cn_both (inP p) (has r) n
    have hz : cn (fun x => inP p x && has r x) n = 0 := by
      rw [cn_congr (g := fun _ => false) n (fun x _ _ => ?_), cn_false]
      cases t : has r x
      · simp
      · have := can_lo h4 t
        cases t2 : inP p x
        · rfl
        · have := ((inP_iff _ _).1 t2).2; omega
    have hp := cn_inP p.1 p.2 (by omega) h2 n
    have ih := tot_cn r _ n (by omega) h4 hn
    rw [tot_cons, e, ih]
    rw [hz] at hb
    have : inP (p.1, p.2) = inP p := rfl
    rw [this] at hp
    omega
theorem tot_le {r : List R} (h : CanF 0 r) : 0 ≤ tot r ∧ tot r ≤ nxt 0 r := by
  have : ∀ (r : List R) (lo : Int), CanF lo r → 0 ≤ tot r ∧ lo + tot r ≤ nxt lo r := by
    intro r
    induction r with
    | nil => intro lo _; simp [tot, nxt]
    | cons p r ih => intro lo h; obtain ⟨h1, h2, h3, h4⟩ := h; have := ih _ h4; rw [tot_cons, nxt]; omega
  have := this r 0 h; omega
/-- Sizes of a union and of what is common, together. -/
theorem tot_both {u m a b : List R} (hu : CanF 0 u) (hm : CanF 0 m) (ha : CanF 0 a) (hb : CanF 0 b) (h1 : ∀ x, has u x = (has a x || has b x)) (h2 : ∀ x, has m x = (has a x && has b x)) : tot u + tot m = tot a + tot b := by
  obtain ⟨n, hn⟩ : ∃ n : Nat, (1114112 : Int) ≤ n := ⟨1114112, by omega⟩
  rw [tot_cn u 0 n (by omega) hu hn, tot_cn m 0 n (by omega) hm hn, tot_cn a 0 n (by omega) ha hn, tot_cn b 0 n (by omega) hb hn, show has u = _ from funext h1, show has m = _ from funext h2]
  exact cn_both _ _ n
theorem tot_not {u a : List R} (hu : CanF 0 u) (ha : CanF 0 a) (h1 : ∀ x, has u x = (code x && !has a x)) : tot u = 1114112 - tot a := by
  obtain ⟨n, hn⟩ : ∃ n : Nat, (n : Int) = 1114112 := ⟨1114112, by omega⟩
  rw [tot_cn u 0 n (by omega) hu (by omega), tot_cn a 0 n (by omega) ha (by omega), cn_congr (g := fun x => !has a x) n (fun x h0 h2 => by rw [h1, (code_iff x).2 (by omega)]; rfl), cn_not, hn]
end Go.Proofs.YtnjomfmdogkhgaaGreatDoor.rng
end

section
/- Plain mathematics of the document's sorted edges: an insertion into a rising list, each number once, where two lists of ranges may change (no program). -/
set_option linter.unusedVariables false
set_option linter.unusedSimpArgs false
namespace Go.Proofs.YtnjomfmdogkhgaaGreatDoor.rng

/-- The list with place a of P opened for h. -/
def hole (P : List Int) (a : Nat) (h : Int) (S : List Int) : List Int := P.take a ++ h :: (P.drop a ++ S)
theorem hole_length (P : List Int) (a : Nat) (h : Int) (S : List Int) : (hole P a h S).length = P.length + 1 + S.length := by
  unfold hole; simp only [List.length_append, List.length_take, List.length_cons, List.length_drop]; omega
theorem hole_put {P : List Int} {a : Nat} {h x : Int} {S : List Int} (ha : a ≤ P.length) : (hole P a h S).set a x = hole P a x S := by
  unfold hole
  rw [List.set_append, if_neg (by rw [List.length_take]; omega), List.length_take, show a - min a P.length = 0 by omega]; rfl
theorem hole_step {P : List Int} {a : Nat} {h y : Int} {S : List Int} (hy : P[a]? = some y) : (hole P (a + 1) h S).set (a + 1) y = hole P a y S := by
  obtain ⟨ha, e⟩ := List.getElem?_eq_some_iff.1 hy
  rw [hole_put (by omega)]
  unfold hole
  rw [List.take_succ_eq_append_getElem ha, List.drop_eq_getElem_cons ha, e]; simp
theorem hole_get {P : List Int} {a j : Nat} {h : Int} {S : List Int} (hj : j < a) (ha : a ≤ P.length) : (hole P a h S)[j]? = P[j]? := by
  unfold hole
  rw [List.getElem?_append_left (by rw [List.length_take]; omega), List.getElem?_take, if_pos hj]
theorem hole_start {L : List Int} {i : Nat} {x : Int} (h : L[i]? = some x) : L = hole (L.take i) i x (L.drop (i + 1)) := by
  obtain ⟨hi, e⟩ := List.getElem?_eq_some_iff.1 h
  unfold hole
  rw [List.take_take, Nat.min_self, List.drop_of_length_le (by rw [List.length_take]; omega), List.nil_append, ← e, ← List.drop_eq_getElem_cons hi, List.take_append_drop]
theorem hole_perm (P : List Int) (a : Nat) (x : Int) (S : List Int) : (hole P a x S).Perm (P ++ x :: S) := by
  unfold hole
  have h1 : (P.take a ++ x :: (P.drop a ++ S)).Perm (x :: (P.take a ++ (P.drop a ++ S))) := List.perm_middle
  have h2 : (P ++ x :: S).Perm (x :: (P ++ S)) := List.perm_middle
  refine h1.trans (.trans ?_ h2.symm)
  rw [← List.append_assoc, List.take_append_drop]
theorem hole_sorted {P : List Int} {a : Nat} {x : Int} {S : List Int} (hP : P.Pairwise (· ≤ ·)) (h1 : ∀ y ∈ P.take a, y ≤ x) (h2 : ∀ y ∈ P.drop a, x < y) : ((hole P a x S).take (P.length + 1)).Pairwise (· ≤ ·) := by
  have e : (hole P a x S).take (P.length + 1) = P.take a ++ x :: P.drop a := by
    unfold hole
    rw [show P.take a ++ x :: (P.drop a ++ S) = (P.take a ++ x :: P.drop a) ++ S by simp]
    rw [List.take_append_of_le_length (by simp only [List.length_append, List.length_take, List.length_cons, List.length_drop]; omega)]
    exact List.take_of_length_le (by simp only [List.length_append, List.length_take, List.length_cons, List.length_drop]; omega)
  rw [e, List.pairwise_append]
  have hP' : (P.take a ++ P.drop a).Pairwise (· ≤ ·) := by rw [List.take_append_drop]; exact hP
  obtain ⟨p1, p2, p3⟩ := List.pairwise_append.1 hP'
  refine ⟨p1, List.pairwise_cons.2 ⟨fun y hy => by have := h2 y hy; omega, p2⟩, fun y hy z hz => ?_⟩
  rcases List.mem_cons.1 hz with rfl | hz
  · exact h1 y hy
  · exact p3 y hy z hz
theorem sorted_take {P : List Int} {a : Nat} {x y : Int} (hP : P.Pairwise (· ≤ ·)) (hy : P[a]? = some y) (h : y ≤ x) : ∀ z ∈ P.take (a + 1), z ≤ x := by
  obtain ⟨ha, e⟩ := List.getElem?_eq_some_iff.1 hy
  intro z hz
  rw [List.take_succ_eq_append_getElem ha, e] at hz
  have hP' : (P.take a ++ P.drop a).Pairwise (· ≤ ·) := by rw [List.take_append_drop]; exact hP
  obtain ⟨p1, p2, p3⟩ := List.pairwise_append.1 hP'
  rcases List.mem_append.1 hz with hz | hz
  · have := p3 z hz y (by rw [List.drop_eq_getElem_cons ha, e]; simp); omega
  · obtain rfl := List.mem_singleton.1 hz; exact h

/-- How the numbers are told once: L rising; out: those of the first k. -/
structure DdInv (L out : List Int) (k : Nat) : Prop where
  mem : ∀ y, y ∈ out ↔ y ∈ L.take k
  lt : out.Pairwise (· < ·)
  len : out.length ≤ k
theorem take_snocI {l : List Int} {k : Nat} {x : Int} (h : l[k]? = some x) : l.take (k + 1) = l.take k ++ [x] := by
  obtain ⟨hk, e⟩ := List.getElem?_eq_some_iff.1 h
  rw [List.take_succ_eq_append_getElem hk, e]
theorem DdInv.start (L : List Int) : DdInv L [] 0 := ⟨fun y => by simp, List.Pairwise.nil, Nat.le_refl _⟩
theorem DdInv.new {L out : List Int} {k : Nat} {x : Int} (h : DdInv L out k) (hL : L.Pairwise (· ≤ ·)) (hx : L[k]? = some x) (hd : k = 0 ∨ ∃ z, L[k - 1]? = some z ∧ z ≠ x) : DdInv L (out ++ [x]) (k + 1) := by
  refine ⟨fun y => by rw [take_snocI hx, List.mem_append, List.mem_append, h.mem], List.pairwise_append.2 ⟨h.lt, List.pairwise_singleton _ _, fun y hy z hz => ?_⟩, by rw [List.length_append]; have := h.len; simp; omega⟩
  obtain rfl := List.mem_singleton.1 hz
  have hy' := (h.mem y).1 hy
  rcases hd with rfl | ⟨q, hq, hne⟩
  · simp at hy'
  · have hk0 : 0 < k := by
      rcases Nat.eq_zero_or_pos k with h0 | h0
      · subst h0; simp at hy'
      · exact h0
    have hL' : (L.take k ++ L.drop k).Pairwise (· ≤ ·) := by rw [List.take_append_drop]; exact hL
    obtain ⟨p1, p2, p3⟩ := List.pairwise_append.1 hL'
    obtain ⟨hk, e⟩ := List.getElem?_eq_some_iff.1 hx
    have hzd : z ∈ L.drop k := by rw [List.drop_eq_getElem_cons hk, e]; simp
    have hqm : q ∈ L.take k := by
      obtain ⟨hq1, hq2⟩ := List.getElem?_eq_some_iff.1 hq
      have : (L.take k)[k - 1]? = some q := by rw [List.getElem?_take, if_pos (by omega)]; exact hq
      exact List.mem_of_getElem? this
    have hqz := p3 q hqm z hzd
    have hyq : y ≤ q := by
      have := sorted_take (a := k - 1) (x := q) hL hq (Int.le_refl _) y
      rw [show k - 1 + 1 = k by omega] at this
      exact this hy'
    omega
theorem DdInv.same {L out : List Int} {k : Nat} {x : Int} (h : DdInv L out k) (hx : L[k]? = some x) (hk : 0 < k) (hp : L[k - 1]? = some x) : DdInv L out (k + 1) := by
  refine ⟨fun y => ?_, h.lt, by have := h.len; omega⟩
  rw [take_snocI hx, List.mem_append, h.mem, List.mem_singleton]
  refine ⟨Or.inl, ?_⟩
  rintro (hy | rfl)
  · exact hy
  · have : (L.take k)[k - 1]? = some y := by rw [List.getElem?_take, if_pos (by omega)]; exact hp
    exact List.mem_of_getElem? this

/-- What is known of the numbers at which the ranges of l may change. -/
structure Marks (l : List R) (M : List Int) : Prop where
  rng : ∀ y ∈ M, 0 ≤ y ∧ y ≤ 1114111
  zero : (0 : Int) ∈ M
  lo : ∀ p ∈ l, 0 < p.1 → p.1 ≤ 1114111 → p.1 ∈ M
  hi : ∀ p ∈ l, 0 ≤ p.2 → p.2 < 1114111 → p.2 + 1 ∈ M
theorem Marks.start : Marks [] [0] := ⟨fun y hy => by simp at hy; omega, by simp, fun p hp => (by cases hp), fun p hp => (by cases hp)⟩
theorem Marks.step {l : List R} {M : List Int} {x y : Int} (h : Marks l M) : Marks (l ++ [(x, y)]) (M ++ (if 0 < x ∧ x ≤ 1114111 then [x] else []) ++ (if 0 ≤ y ∧ y < 1114111 then [y + 1] else [])) := by
  refine ⟨fun z hz => ?_, by simp [h.zero], fun p hp h1 h2 => ?_, fun p hp h1 h2 => ?_⟩
  · rcases List.mem_append.1 hz with hz | hz
    · rcases List.mem_append.1 hz with hz | hz
      · exact h.rng z hz
      · split at hz
        · obtain rfl := List.mem_singleton.1 hz; omega
        · cases hz
    · split at hz
      · obtain rfl := List.mem_singleton.1 hz; omega
      · cases hz
  · rcases List.mem_append.1 hp with hp | hp
    · simp [h.lo p hp h1 h2]
    · obtain rfl := List.mem_singleton.1 hp
      simp only at h1 h2
      simp [h1, h2]
  · rcases List.mem_append.1 hp with hp | hp
    · simp [h.hi p hp h1 h2]
    · obtain rfl := List.mem_singleton.1 hp
      simp only at h1 h2
      simp [h1, h2]
theorem Marks.of_mem {l : List R} {M N : List Int} (h : Marks l M) (e : ∀ y, y ∈ N ↔ y ∈ M) : Marks l N :=
  ⟨fun y hy => h.rng y ((e y).1 hy), (e 0).2 h.zero, fun p hp h1 h2 => (e _).2 (h.lo p hp h1 h2), fun p hp h1 h2 => (e _).2 (h.hi p hp h1 h2)⟩
/-- The place number k; behind all, that behind all code points. -/
def cur (E : List Int) (k : Nat) : Int := E.getD k 1114112
theorem cur_get {E : List Int} {k : Nat} {x : Int} (h : E[k]? = some x) : cur E k = x := by unfold cur; rw [List.getD_eq_getElem?_getD, h]; rfl
theorem cur_end {E : List Int} {k : Nat} (h : E.length ≤ k) : cur E k = 1114112 := by unfold cur; rw [List.getD_eq_getElem?_getD, List.getElem?_eq_none h]; rfl
theorem Marks.cur_zero {l : List R} {E : List Int} (h : Marks l E) (hE : E.Pairwise (· < ·)) : cur E 0 = 0 := by
  cases E with
  | nil => have := h.zero; cases this
  | cons e E =>
    have h0 := h.zero
    rcases List.mem_cons.1 h0 with h1 | h1
    · show e = 0; omega
    · have := (List.pairwise_cons.1 hE).1 0 h1
      have := (h.rng e (by simp)).1
      omega
theorem Marks.next {l : List R} {E : List Int} (h : Marks l E) (hE : E.Pairwise (· < ·)) {k : Nat} {x : Int} (hk : E[k]? = some x) : x < cur E (k + 1) ∧ cur E (k + 1) ≤ 1114112 ∧ ∀ y ∈ E, ¬ (x < y ∧ y < cur E (k + 1)) := by
  obtain ⟨hl, e⟩ := List.getElem?_eq_some_iff.1 hk
  have hx := h.rng x (List.mem_of_getElem? hk)
  have hP := List.pairwise_iff_getElem.1 hE
  rcases Nat.lt_or_ge (k + 1) E.length with h1 | h1
  · have hn : E[k + 1]? = some E[k + 1] := List.getElem?_eq_getElem h1
    rw [cur_get hn]
    refine ⟨by rw [← e]; exact hP k (k + 1) hl h1 (by omega), by have := h.rng _ (List.mem_of_getElem? hn); omega, fun y hy => ?_⟩
    obtain ⟨j, hj, rfl⟩ := List.getElem_of_mem hy
    rintro ⟨a1, a2⟩
    rcases Nat.lt_or_ge k j with hkj | hkj
    · rcases Nat.eq_or_lt_of_le (show k + 1 ≤ j from hkj) with h2 | h2
      · subst h2; omega
      · have := hP (k + 1) j h1 hj h2; omega
    · rcases Nat.eq_or_lt_of_le hkj with h2 | h2
      · subst h2; omega
      · have := hP j k hj hl h2; omega
  · rw [cur_end h1]
    refine ⟨by omega, by omega, fun y hy => ?_⟩
    obtain ⟨j, hj, rfl⟩ := List.getElem_of_mem hy
    rintro ⟨a1, a2⟩
    rcases Nat.eq_or_lt_of_le (show j ≤ k by omega) with h2 | h2
    · subst h2; omega
    · have := hP j k hj hl h2; omega
/-- Between two places nothing turns. -/
theorem Marks.flat {l a : List R} {E : List Int} (h : Marks l E) (hE : E.Pairwise (· < ·)) (ha : ∀ p ∈ a, p ∈ l) {k : Nat} {x y : Int} (hk : E[k]? = some x) (h1 : x ≤ y) (h2 : y < cur E (k + 1)) : has a y = has a x := by
  obtain ⟨n1, n2, n3⟩ := h.next hE hk
  have hx := h.rng x (List.mem_of_getElem? hk)
  refine has_flat a hx.1 n2 (fun p hp => ?_) (fun p hp => ?_) h1 h2
  · rintro ⟨q1, q2⟩
    exact n3 p.1 (h.lo p (ha p hp) (by omega) (by omega)) ⟨q1, q2⟩
  · rintro ⟨q1, q2⟩
    exact n3 (p.2 + 1) (h.hi p (ha p hp) (by omega) (by omega)) ⟨q1, q2⟩
end Go.Proofs.YtnjomfmdogkhgaaGreatDoor.rng
end

section
/- Plain mathematics of values of code points (no program): entries, the last one with a code point, lists that rise, one list laid over another. -/
set_option linter.unusedVariables false
set_option linter.unusedSimpArgs false
namespace Go.Proofs.YtnjomfmdogkhgaaGreatDoor.tri
open Go.Proofs.YtnjomfmdogkhgaaGreatDoor.rng (R code inP has IsSet code_iff inP_iff has_iff has_cons has_nil)

abbrev E := Int × Int × Int
/-- The value of the first entry with x. -/
def at_ : List E → Int → Option Int
  | [], _ => none
  | e :: l, x => if e.1 ≤ x ∧ x ≤ e.2.1 then some e.2.2 else at_ l x
/-- The value of the last entry with x. -/
def last : List E → Int → Option Int
  | [], _ => none
  | e :: l, x => (last l x).or (if e.1 ≤ x ∧ x ≤ e.2.1 then some e.2.2 else none)
/-- Rising from lo on, of code points alone, with values below n. -/
def Ris (n : Int) : Int → List E → Prop
  | _, [] => True
  | lo, e :: l => lo ≤ e.1 ∧ e.1 ≤ e.2.1 ∧ e.2.1 ≤ 1114111 ∧ 0 ≤ e.2.2 ∧ e.2.2 < n ∧ Ris n (e.2.1 + 1) l
/-- Entries that play a part. -/
def clip (e : E) : E := (max e.1 0, min e.2.1 1114111, e.2.2)
def good (n : Int) (e : E) : Bool := decide (e.1 ≤ e.2.1) && decide (0 ≤ e.2.2) && decide (e.2.2 < n)
def use (n : Int) (l : List E) : List E := (l.map clip).filter (good n)

theorem at_append (l m : List E) (x : Int) : at_ (l ++ m) x = (at_ l x).or (at_ m x) := by
  induction l with
  | nil => simp [at_]
  | cons e l ih =>
    rw [List.cons_append, at_, at_]
    by_cases h : e.1 ≤ x ∧ x ≤ e.2.1
    · rw [if_pos h, if_pos h]; rfl
    · rw [if_neg h, if_neg h, ih]
theorem last_append (l m : List E) (x : Int) : last (l ++ m) x = (last m x).or (last l x) := by
  induction l with
  | nil => simp [last]
  | cons e l ih => rw [List.cons_append, last, last, ih, Option.or_assoc]
theorem ris_mono {n lo lo' : Int} {l : List E} (h : Ris n lo l) (hl : lo' ≤ lo) : Ris n lo' l := by
  cases l with
  | nil => trivial
  | cons e l => obtain ⟨h1, h2⟩ := h; exact ⟨by omega, h2⟩
theorem ris_none {n : Int} : ∀ {l : List E} {lo x : Int}, Ris n lo l → x < lo → at_ l x = none
  | [], lo, x, _, _ => rfl
  | e :: l, lo, x, h, hx => by
    obtain ⟨h1, h2, h3, h4, h5, h6⟩ := h
    rw [at_, if_neg (by omega)]
    exact ris_none h6 (by omega)
theorem ris_last {n : Int} : ∀ {l : List E} {lo : Int} (x : Int), Ris n lo l → last l x = at_ l x
  | [], lo, x, _ => rfl
  | e :: l, lo, x, h => by
    obtain ⟨h1, h2, h3, h4, h5, h6⟩ := h
    rw [at_, last, ris_last x h6]
    by_cases h : e.1 ≤ x ∧ x ≤ e.2.1
    · rw [if_pos h, if_pos h, ris_none h6 (by omega)]; rfl
    · rw [if_neg h, if_neg h]; simp
theorem ris_one {n : Int} {e : E} (h : good n e = true) (h0 : 0 ≤ e.1) (h1 : e.2.1 ≤ 1114111) : Ris n 0 [e] := by
  simp [good] at h
  exact ⟨h0, h.1.1, h1, h.1.2, h.2, trivial⟩
theorem ris_length {n : Int} : ∀ (l : List E) (lo : Int), Ris n lo l → l = [] ∨ lo + l.length ≤ 1114112
  | [], lo, h => .inl rfl
  | e :: l, lo, h => by
    obtain ⟨h1, h2, h3, h4, h5, h6⟩ := h
    right
    rcases ris_length l _ h6 with rfl | h7
    · simp; omega
    · simp; omega
theorem ris_len {n : Int} {l : List E} (h : Ris n 0 l) : l.length ≤ 1114112 := by
  rcases ris_length l 0 h with rfl | h
  · simp
  · omega
theorem ris_mem {n : Int} : ∀ {l : List E} {lo : Int}, Ris n lo l → ∀ e ∈ l, lo ≤ e.1 ∧ e.1 ≤ e.2.1 ∧ e.2.1 ≤ 1114111 ∧ 0 ≤ e.2.2 ∧ e.2.2 < n
  | [], lo, h, e, he => by cases he
  | a :: l, lo, h, e, he => by
    obtain ⟨h1, h2, h3, h4, h5, h6⟩ := h
    rcases List.mem_cons.1 he with rfl | he
    · exact ⟨h1, h2, h3, h4, h5⟩
    · have := ris_mem h6 e he; exact ⟨by omega, this.2⟩
theorem at_code {n lo : Int} {l : List E} (h : Ris n lo l) (h0 : 0 ≤ lo) {x v : Int} (hv : at_ l x = some v) : 0 ≤ x ∧ x ≤ 1114111 ∧ 0 ≤ v ∧ v < n := by
  induction l generalizing lo with
  | nil => cases hv
  | cons e l ih =>
    obtain ⟨h1, h2, h3, h4, h5, h6⟩ := h
    rw [at_] at hv
    by_cases hc : e.1 ≤ x ∧ x ≤ e.2.1
    · rw [if_pos hc] at hv; cases hv; omega
    · rw [if_neg hc] at hv; exact ih h6 (by omega) hv

theorem use_snoc (n : Int) (l : List E) (e : E) : use n (l ++ [e]) = use n l ++ (if good n (clip e) = true then [clip e] else []) := by
  unfold use; rw [List.map_append, List.filter_append]; congr 1; simp [List.filter_cons]
theorem use_length (n : Int) (l : List E) : (use n l).length ≤ l.length := by
  unfold use; have := List.length_filter_le (good n) (l.map clip); simpa using this
theorem use_mem {n : Int} {l : List E} : ∀ e ∈ use n l, good n e = true ∧ 0 ≤ e.1 ∧ e.2.1 ≤ 1114111 := by
  intro e he
  obtain ⟨h1, h2⟩ := List.mem_filter.1 he
  obtain ⟨a, _, rfl⟩ := List.mem_map.1 h1
  exact ⟨h2, by simp [clip]; omega, by simp [clip]; omega⟩
theorem last_some {l : List E} {x v : Int} (h : last l x = some v) : ∃ e ∈ l, e.1 ≤ x ∧ x ≤ e.2.1 ∧ e.2.2 = v := by
  induction l with
  | nil => cases h
  | cons e l ih =>
    rw [last] at h
    cases hl : last l x with
    | some u =>
      rw [hl] at h
      obtain ⟨e', h1, h2⟩ := ih (by rw [hl]; exact h)
      exact ⟨e', List.mem_cons_of_mem _ h1, h2⟩
    | none =>
      rw [hl] at h
      by_cases hc : e.1 ≤ x ∧ x ≤ e.2.1
      · rw [if_pos hc] at h
        exact ⟨e, List.mem_cons_self, hc.1, hc.2, by simpa using h⟩
      · rw [if_neg hc] at h; cases h
theorem last_use {n : Int} {l : List E} {x v : Int} (h : last (use n l) x = some v) : 0 ≤ x ∧ x ≤ 1114111 ∧ 0 ≤ v ∧ v < n := by
  obtain ⟨e, h1, h2, h3, h4⟩ := last_some h
  obtain ⟨g1, g2, g3⟩ := use_mem e h1
  simp [good] at g1
  omega

/-- One entry t laid over the list: what stands ahead of it, and what stays behind. -/
def step (t : E) : List E → List E × List E
  | [] => ([], [])
  | a :: u =>
    if a.1 ≤ t.2.1 then
      if t.2.1 < a.2.1 then ((if a.1 < t.1 then [(a.1, min a.2.1 (t.1 - 1), a.2.2)] else []), (t.2.1 + 1, a.2.1, a.2.2) :: u)
      else ((if a.1 < t.1 then [(a.1, min a.2.1 (t.1 - 1), a.2.2)] else []) ++ (step t u).1, (step t u).2)
    else ([], a :: u)
/-- The list v laid over u. -/
def over : List E → List E → List E
  | u, [] => u
  | u, t :: v => (step t u).1 ++ t :: over (step t u).2 v
theorem step_past {t a : E} {u : List E} (h : ¬ a.1 ≤ t.2.1) : step t (a :: u) = ([], a :: u) := by rw [step, if_neg h]
theorem step_cut {t a : E} {u : List E} (h : a.1 ≤ t.2.1) (h2 : t.2.1 < a.2.1) : step t (a :: u) = ((if a.1 < t.1 then [(a.1, min a.2.1 (t.1 - 1), a.2.2)] else []), (t.2.1 + 1, a.2.1, a.2.2) :: u) := by rw [step, if_pos h, if_pos h2]
theorem step_on {t a : E} {u : List E} (h : a.1 ≤ t.2.1) (h2 : ¬ t.2.1 < a.2.1) : step t (a :: u) = ((if a.1 < t.1 then [(a.1, min a.2.1 (t.1 - 1), a.2.2)] else []) ++ (step t u).1, (step t u).2) := by rw [step, if_pos h, if_neg h2]

theorem step_good {n : Int} {t : E} (ht : t.1 ≤ t.2.1) : ∀ (u : List E) (lo : Int), Ris n lo u → lo ≤ t.1 →
    (∀ rest, Ris n t.1 rest → Ris n lo ((step t u).1 ++ rest)) ∧ Ris n (t.2.1 + 1) (step t u).2 ∧ (∀ x, x < t.1 → at_ (step t u).1 x = at_ u x) ∧ (∀ x, t.1 ≤ x → at_ (step t u).1 x = none) ∧ (∀ x, t.2.1 < x → at_ (step t u).2 x = at_ u x)
  | [], lo, h, hl => ⟨fun rest hr => ris_mono hr hl, trivial, fun x _ => rfl, fun x _ => rfl, fun x _ => rfl⟩
  | a :: u, lo, h, hl => by
    have h' := h
    obtain ⟨h1, h2, h3, h4, h5, h6⟩ := h
    by_cases c1 : a.1 ≤ t.2.1
    · by_cases c2 : t.2.1 < a.2.1
      · rw [step_cut c1 c2]
        refine ⟨fun rest hr => ?_, ⟨by simp, by simp; omega, h3, h4, h5, h6⟩, fun x hx => ?_, fun x hx => ?_, fun x hx => ?_⟩
        · by_cases c3 : a.1 < t.1
          · rw [if_pos c3]
            exact ⟨h1, by simp only; omega, by simp only; omega, h4, h5, ris_mono hr (by simp only; omega)⟩
          · rw [if_neg c3]; exact ris_mono hr hl
        · by_cases c3 : a.1 < t.1
          · simp only [if_pos c3, at_]
            by_cases c4 : a.1 ≤ x
            · rw [if_pos (by omega), if_pos (by omega)]
            · rw [if_neg (by omega), if_neg (by omega)]; exact (ris_none h6 (by omega)).symm
          · simp only [if_neg c3]
            exact (ris_none (n := n) (l := a :: u) (lo := a.1) ⟨by omega, h2, h3, h4, h5, h6⟩ (by omega)).symm
        · by_cases c3 : a.1 < t.1
          · simp only [if_pos c3, at_]; rw [if_neg (by omega)]
          · simp only [if_neg c3, at_]
        · simp only [at_]
          by_cases c4 : x ≤ a.2.1
          · rw [if_pos (by omega), if_pos (by omega)]
          · rw [if_neg (by omega), if_neg (by omega)]
      · rw [step_on c1 c2]
        obtain ⟨g1, g2, g3, g4, g5⟩ := step_good ht u (min (a.2.1 + 1) t.1) (ris_mono h6 (by omega)) (by omega)
        refine ⟨fun rest hr => ?_, g2, fun x hx => ?_, fun x hx => ?_, fun x hx => ?_⟩
        · by_cases c3 : a.1 < t.1
          · rw [if_pos c3]
            exact ⟨h1, by simp only; omega, by simp only; omega, h4, h5, ris_mono (g1 rest hr) (by simp only; omega)⟩
          · rw [if_neg c3]; exact ris_mono (g1 rest hr) (by omega)
        · rw [at_append, g3 x hx]
          by_cases c3 : a.1 < t.1
          · simp only [if_pos c3, at_]
            by_cases c4 : a.1 ≤ x ∧ x ≤ a.2.1
            · rw [if_pos (by omega), if_pos c4]; rfl
            · rw [if_neg (by omega), if_neg c4]; rfl
          · simp only [if_neg c3, at_]; rw [if_neg (by omega)]; rfl
        · rw [at_append, g4 x hx]
          by_cases c3 : a.1 < t.1
          · simp only [if_pos c3, at_]; rw [if_neg (by omega)]; rfl
          · simp only [if_neg c3, at_]; rfl
        · simp only [at_]; rw [if_neg (by omega)]; exact g5 x hx
    · rw [step_past c1]
      refine ⟨fun rest hr => ris_mono hr hl, ⟨by omega, h2, h3, h4, h5, h6⟩, fun x hx => ?_, fun x hx => rfl, fun x hx => rfl⟩
      exact (ris_none (n := n) (l := a :: u) (lo := a.1) ⟨by omega, h2, h3, h4, h5, h6⟩ (by omega)).symm
theorem over_good {n : Int} : ∀ (v u : List E) (lo : Int), Ris n lo u → Ris n lo v → Ris n lo (over u v) ∧ ∀ x, at_ (over u v) x = (at_ v x).or (at_ u x)
  | [], u, lo, hu, hv => ⟨hu, fun x => by simp [over, at_]⟩
  | t :: v, u, lo, hu, hv => by
    obtain ⟨h1, h2, h3, h4, h5, h6⟩ := hv
    obtain ⟨g1, g2, g3, g4, g5⟩ := step_good h2 u lo hu h1
    obtain ⟨k1, k2⟩ := over_good v (step t u).2 (t.2.1 + 1) g2 h6
    rw [over]
    refine ⟨g1 _ ⟨by omega, h2, h3, h4, h5, k1⟩, fun x => ?_⟩
    rw [at_append, at_, at_, k2 x]
    by_cases c1 : x < t.1
    · rw [if_neg (by omega), if_neg (by omega), g3 x c1, ris_none h6 (by omega), ris_none g2 (by omega)]; simp
    · rw [g4 x (by omega)]
      by_cases c2 : x ≤ t.2.1
      · rw [if_pos (by omega), if_pos (by omega)]; rfl
      · rw [if_neg (by omega), if_neg (by omega), g5 x (by omega)]; rfl

/-- Two entries that touch and have one value are one. -/
theorem join_good {n : Int} : ∀ (i : List E) (lo : Int) (q e : E) (r : List E), Ris n lo (i ++ q :: e :: r) → q.2.1 + 1 = e.1 → q.2.2 = e.2.2 →
    Ris n lo (i ++ (q.1, e.2.1, q.2.2) :: r) ∧ ∀ x, at_ (i ++ (q.1, e.2.1, q.2.2) :: r) x = at_ (i ++ q :: e :: r) x
  | [], lo, q, e, r, h, c1, c2 => by
    obtain ⟨h1, h2, h3, h4, h5, k1, k2, k3, k4, k5, k6⟩ := h
    refine ⟨⟨h1, by simp only; omega, k3, h4, h5, k6⟩, fun x => ?_⟩
    simp only [List.nil_append, at_]
    by_cases t1 : q.1 ≤ x ∧ x ≤ q.2.1
    · rw [if_pos (by omega), if_pos t1]
    · by_cases t2 : e.1 ≤ x ∧ x ≤ e.2.1
      · rw [if_pos (by omega), if_neg t1, if_pos t2, c2]
      · rw [if_neg (by omega), if_neg t1, if_neg t2]
  | a :: i, lo, q, e, r, h, c1, c2 => by
    obtain ⟨h1, h2, h3, h4, h5, h6⟩ := h
    obtain ⟨g1, g2⟩ := join_good i _ q e r h6 c1 c2
    refine ⟨⟨h1, h2, h3, h4, h5, g1⟩, fun x => ?_⟩
    simp only [List.cons_append, at_]; rw [g2 x]

/-- How many entries end ahead of x. -/
def cntH (l : List E) (x : Int) : Nat := (l.filter fun e => decide (e.2.1 < x)).length
theorem cntH_le (l : List E) (x : Int) : cntH l x ≤ l.length := List.length_filter_le _ _
theorem cntH_cons (e : E) (l : List E) (x : Int) : cntH (e :: l) x = (if e.2.1 < x then 1 else 0) + cntH l x := by
  unfold cntH; rw [List.filter_cons]; by_cases h : e.2.1 < x <;> simp [h]; omega
theorem cntH_mono {l : List E} {x y : Int} (h : x ≤ y) : cntH l x ≤ cntH l y := by
  induction l with
  | nil => simp [cntH]
  | cons e l ih => rw [cntH_cons, cntH_cons]; split <;> split <;> omega
theorem cntH_zero {n : Int} : ∀ {l : List E} {lo x : Int}, Ris n lo l → x ≤ lo → cntH l x = 0
  | [], lo, x, _, _ => rfl
  | e :: l, lo, x, h, hx => by
    obtain ⟨h1, h2, h3, h4, h5, h6⟩ := h
    rw [cntH_cons, if_neg (by omega), cntH_zero h6 (by omega)]
theorem cntH_get {n : Int} : ∀ {l : List E} {lo x : Int} {i : Nat} {e : E}, Ris n lo l → l[i]? = some e → (e.2.1 < x ↔ i < cntH l x)
  | [], lo, x, i, e, _, he => by simp at he
  | a :: l, lo, x, 0, e, h, he => by
    obtain ⟨h1, h2, h3, h4, h5, h6⟩ := h
    simp at he; subst he
    rw [cntH_cons]
    by_cases c : a.2.1 < x
    · rw [if_pos c]; constructor <;> intro <;> omega
    · rw [if_neg c, cntH_zero h6 (by omega)]; constructor <;> intro <;> omega
  | a :: l, lo, x, i + 1, e, h, he => by
    obtain ⟨h1, h2, h3, h4, h5, h6⟩ := h
    have he' : l[i]? = some e := by simpa using he
    have g := cntH_get (x := x) h6 he'
    have gm := ris_mem h6 e (List.mem_of_getElem? he')
    rw [cntH_cons]
    by_cases c : a.2.1 < x
    · rw [if_pos c, g]; omega
    · rw [if_neg c, cntH_zero h6 (by omega)]; constructor <;> intro <;> omega
theorem at_cnt {n : Int} : ∀ {l : List E} {lo : Int} (x : Int), Ris n lo l → at_ l x = (match l[cntH l x]? with | none => none | some e => if e.1 ≤ x then some e.2.2 else none)
  | [], lo, x, _ => rfl
  | a :: l, lo, x, h => by
    obtain ⟨h1, h2, h3, h4, h5, h6⟩ := h
    rw [at_, cntH_cons]
    by_cases c : a.2.1 < x
    · rw [if_pos c, if_neg (by omega), at_cnt x h6, Nat.add_comm, List.getElem?_cons_succ]
    · rw [if_neg c, cntH_zero h6 (by omega)]
      simp only [Nat.zero_add, List.getElem?_cons_zero]
      by_cases c2 : a.1 ≤ x
      · rw [if_pos (by omega), if_pos c2]
      · rw [if_neg (by omega), if_neg c2, ris_none h6 (by omega)]
theorem at_none {n : Int} {l : List E} {x : Int} (h : Ris n 0 l) (hc : cntH l x = l.length) : at_ l x = none := by
  rw [at_cnt x h, hc, List.getElem?_eq_none (Nat.le_refl _)]
theorem at_here {n : Int} {l : List E} {x : Int} {e : E} (h : Ris n 0 l) (hc : l[cntH l x]? = some e) : at_ l x = if e.1 ≤ x then some e.2.2 else none := by
  rw [at_cnt x h, hc]

/-- The ranges whose values are told by p. -/
def rngOf (p : Int → Bool) (l : List E) : List R := (l.filter fun e => p e.2.2).map fun e => (e.1, e.2.1)
theorem rngOf_snoc (p : Int → Bool) (l : List E) (e : E) : rngOf p (l ++ [e]) = rngOf p l ++ (if p e.2.2 = true then [(e.1, e.2.1)] else []) := by
  unfold rngOf; rw [List.filter_append, List.map_append]; congr 1; cases h : p e.2.2 <;> simp [h]
theorem rngOf_length (p : Int → Bool) (l : List E) : (rngOf p l).length ≤ l.length := by
  unfold rngOf; rw [List.length_map]; exact List.length_filter_le _ _
theorem has_rngOf {n : Int} (p : Int → Bool) : ∀ {l : List E} {lo : Int} (x : Int), 0 ≤ lo → Ris n lo l → has (rngOf p l) x = (match at_ l x with | some v => p v | none => false)
  | [], lo, x, _, _ => by simp [rngOf, has_nil, at_]
  | a :: l, lo, x, h0, h => by
    obtain ⟨h1, h2, h3, h4, h5, h6⟩ := h
    have ih := has_rngOf p x (by omega) h6
    rw [at_]
    have e1 : rngOf p (a :: l) = (if p a.2.2 = true then [(a.1, a.2.1)] else []) ++ rngOf p l := by
      unfold rngOf; rw [List.filter_cons]; cases h : p a.2.2 <;> simp
    rw [e1, rng.has_append, ih]
    by_cases c : a.1 ≤ x ∧ x ≤ a.2.1
    · rw [if_pos c, ris_none h6 (by omega)]
      simp only [Bool.or_false]
      cases hp : p a.2.2
      · simp [has_nil]
      · simp only [if_true]; rw [has_cons, has_nil, (code_iff x).2 (by omega), (inP_iff _ x).2 (by simp only; omega)]; rfl
    · rw [if_neg c]
      cases hp : p a.2.2
      · simp [has_nil]
      · simp only [if_true]; rw [has_cons, has_nil]
        have : inP (a.1, a.2.1) x = false := by rw [Bool.eq_false_iff]; intro h; exact c ((inP_iff _ x).1 h)
        rw [this]; simp
end Go.Proofs.YtnjomfmdogkhgaaGreatDoor.tri
end
