/- The document's builder as plain lists: places that are told later on. -/
import Derived.Test.YtjbcapnpknbbaaaGreatCmpFrom
set_option linter.unusedVariables false
set_option linter.unusedSimpArgs false
namespace Go.Proofs.YtjbcapnpknbbaaaGreat.cmp
open Go.RowKit nod
open Go.Proofs.YtjbcapnpknbbaaaGreat.rng (R)
variable {α : Type}

/-- What a call makes of the code and marks a, that should lay q behind them: that, or more than there may be. -/
def Nx (a c q : Pc α) (m : Nat) : Prop := (c = addP a q ∨ (5000 < c.1.length ∧ 5000 < a.1.length + q.1.length)) ∧ a.1.length ≤ c.1.length ∧ c.1.length ≤ max a.1.length m
theorem Nx.wide {a c q : Pc α} {m m' : Nat} (h : Nx a c q m) (hm : m ≤ m') : Nx a c q m' := ⟨h.1, h.2.1, by have := h.2.2; omega⟩

def turn1 (f : Nat → Is α → Is α) (j : Nat) (l : List (Is α)) : List (Is α) := match l[j]? with | some i => l.set j (f j i) | none => l
def turn (f : Nat → Is α → Is α) : List Nat → List (Is α) → List (Is α)
  | [], l => l
  | j :: J, l => turn f J (turn1 f j l)
theorem turn1_len (f : Nat → Is α → Is α) (j : Nat) (l : List (Is α)) : (turn1 f j l).length = l.length := by
  unfold turn1; split <;> simp
theorem turn_len (f : Nat → Is α → Is α) : ∀ (J : List Nat) (l : List (Is α)), (turn f J l).length = l.length
  | [], l => rfl
  | j :: J, l => by rw [turn, turn_len f J, turn1_len]
theorem turn1_app (f : Nat → Is α → Is α) (j : Nat) (l m : List (Is α)) (h : j < l.length) : turn1 f j (l ++ m) = turn1 f j l ++ m := by
  unfold turn1
  rw [List.getElem?_append_left h, List.getElem?_eq_getElem h]
  simp only
  rw [List.set_append_left _ _ h]
theorem turn_app (f : Nat → Is α → Is α) : ∀ (J : List Nat) (l m : List (Is α)), (∀ j ∈ J, j < l.length) → turn f J (l ++ m) = turn f J l ++ m
  | [], l, m, h => rfl
  | j :: J, l, m, h => by
    rw [turn, turn, turn1_app f j l m (h j (List.mem_cons_self ..)), turn_app f J _ m (fun x hx => by rw [turn1_len]; exact h x (List.mem_cons_of_mem _ hx))]
theorem turn_snoc (f : Nat → Is α → Is α) : ∀ (J : List Nat) (j : Nat) (l : List (Is α)), turn f (J ++ [j]) l = turn1 f j (turn f J l)
  | [], j, l => rfl
  | k :: J, j, l => by rw [List.cons_append, turn, turn, turn_snoc f J]
theorem turn1_end (f : Nat → Is α → Is α) (l : List (Is α)) (i : Is α) (m : List (Is α)) : turn1 f l.length (l ++ i :: m) = l ++ f l.length i :: m := by
  unfold turn1
  rw [List.getElem?_append_right (Nat.le_refl _)]
  simp only [Nat.sub_self, List.getElem?_cons_zero]
  rw [List.set_append_right _ _ (Nat.le_refl _)]
  simp
theorem turn_mem (f : Nat → Is α → Is α) : ∀ (J : List Nat) (l : List (Is α)) (k : Nat), k ∉ J → (turn f J l)[k]? = l[k]?
  | [], l, k, h => rfl
  | j :: J, l, k, h => by
    rw [turn, turn_mem f J _ k (fun hk => h (List.mem_cons_of_mem _ hk))]
    unfold turn1
    split
    · rw [List.getElem?_set_ne (fun e => h (by rw [← e]; exact List.mem_cons_self ..))]
    · rfl
def turnP (f : Nat → Is α → Is α) (J : List Nat) (a : Pc α) : Pc α := (turn f J a.1, a.2)
theorem turnP_put (f : Nat → Is α → Is α) (J : List Nat) (a : Pc α) (l : List (Is α)) (h : ∀ j ∈ J, j < a.1.length) : turnP f J (putP a l) = putP (turnP f J a) l := by
  unfold turnP putP; rw [turn_app f J _ _ h]
theorem turnP_add (f : Nat → Is α → Is α) (J : List Nat) (a k : Pc α) (h : ∀ j ∈ J, j < a.1.length) : turnP f J (addP a k) = addP (turnP f J a) k := by
  unfold turnP addP; simp only [turn_len]; rw [turn_app f J _ _ h]
theorem turnP_new (f : Nat → Is α → Is α) (J : List Nat) (a : Pc α) (i : Is α) (h : ∀ j ∈ J, j < a.1.length) : turnP f (J ++ [a.1.length]) (putP a [i]) = putP (turnP f J a) [f a.1.length i] := by
  unfold turnP putP
  simp only
  rw [turn_snoc, turn_app f J _ _ h]
  have := turn1_end f (turn f J a.1) i []
  rw [turn_len] at this
  rw [this]
theorem turnP_len (f : Nat → Is α → Is α) (J : List Nat) (a : Pc α) : (turnP f J a).1.length = a.1.length := turn_len f J a.1

theorem add_put (a b : Pc α) (l : List (Is α)) : addP a (putP b l) = putP (addP a b) (l.map (mv a.1.length a.2)) := by
  simp [addP, putP]
theorem len_putP (a : Pc α) (l : List (Is α)) : (putP a l).1.length = a.1.length + l.length := by simp [putP]
theorem mv2 (p m : Int) (e : α) (x y : Int) : mv p m (ins e 2 x y) = ins e 2 (x + p) (y + p) := by simp [mv, ins]
theorem mv3 (p m : Int) (e : α) (x y : Int) : mv p m (ins e 3 x y) = ins e 3 (x + p) y := by simp [mv, ins]
theorem mv4 (p m : Int) (e : α) (x y : Int) : mv p m (ins e 4 x y) = ins e 4 x y := by simp [mv, ins]
theorem mv10 (p m : Int) (e : α) (x y : Int) : mv p m (ins e 10 x y) = ins e 10 (x + m) y := by simp [mv, ins]
theorem mv11 (p m : Int) (e : α) (x y : Int) : mv p m (ins e 11 x y) = ins e 11 (x + m) (y + p) := by simp [mv, ins]
theorem mv12 (p m : Int) (e : α) (x y : Int) : mv p m (ins e 12 x y) = ins e 12 x y := by simp [mv, ins]
theorem add_one (a : Pc α) (i : Is α) : addP a (oneP i) = putP a [mv a.1.length a.2 i] := by simp [addP, oneP, putP]
theorem rowP3 (a b c : Pc α) : rowP [a, b, c] = addP (addP a b) c := by
  rw [rowP_cons, rowP_cons, rowP_cons, rowP_nil, addP_zero, addP_assoc]
theorem addP_row3 (s a b c : Pc α) : addP s (rowP [a, b, c]) = addP (addP (addP s a) b) c := by rw [rowP3, ← addP_assoc, ← addP_assoc]
/-- A group. -/
theorem saved_doc (e : α) (a q : Pc α) (k : Int) : putP (addP (putP a [ins e 4 (2 * k) 0]) q) [ins e 4 (2 * k + 1) 0] = addP a (savedP e k q) := by
  unfold savedP
  rw [addP_row3, add_one, add_one, mv4, mv4]
/-- A block: its end is told last. -/
theorem block_doc (e : α) (a q : Pc α) (i : Is α) (h : i.op = 8 ∨ i.op = 9) (c : Pc α) (hc : c = putP (addP (putP a [i]) q) [ins e 12 0 0]) :
    (c.1.set a.1.length ⟨i.op, i.x, c.1.length, i.mn, i.mx, i.set⟩, c.2) = addP a (blockP e i q) := by
  subst hc
  unfold blockP
  rw [addP_row3, add_one, add_one, mv12]
  have hm : mv (a.1.length : Int) a.2 ⟨i.op, i.x, (q.1.length : Int) + 2, i.mn, i.mx, i.set⟩ = ⟨i.op, i.x, (q.1.length : Int) + 2 + a.1.length, i.mn, i.mx, i.set⟩ := by
    unfold mv
    simp only
    rw [if_neg (by omega), if_neg (by omega), if_neg (by omega), if_neg (by omega), if_pos h]
  rw [hm]
  simp only [putP, addP, List.length_append, List.length_map, List.length_cons, List.length_nil, List.append_assoc]
  refine Prod.ext ?_ rfl
  simp only
  rw [List.set_append_right _ _ (Nat.le_refl _), Nat.sub_self, List.singleton_append, List.set_cons_zero]
  congr 2
  simp only [Is.mk.injEq, true_and, and_true]
  omega

theorem set_end (l : List (Is α)) (i x : Is α) (m : List (Is α)) : (l ++ i :: m).set l.length x = l ++ x :: m := by
  rw [List.set_append_right _ _ (Nat.le_refl _), Nat.sub_self]; rfl
theorem mv_split (p m : Int) (e : α) (mode x y : Int) : mv p m (splitI e mode x y) = splitI e mode (x + p) (y + p) := by
  unfold splitI; split <;> rw [mv2]
/-- A loop without end: its ends are told last. -/
theorem loop_doc (e : α) (mode : Int) (a q c1 c2 c4 : Pc α) (h1 : c1 = (a.1 ++ [ins e 2 ((a.1.length : Int) + 1) 0] ++ [ins e 10 a.2 0], a.2 + 1)) (h2 : c2 = addP c1 q) (h4 : c4 = putP (putP c2 [ins e 11 a.2 0]) [ins e 3 a.1.length 0]) :
    ((c4.1.set c2.1.length ⟨11, a.2, c4.1.length, 0, 0, e⟩).set a.1.length (splitI e mode ((a.1.length : Int) + 1) c4.1.length), c4.2) = addP a (loopP e mode q) := by
  have hl4 : (c4.1.length : Int) = (q.1.length : Int) + 4 + a.1.length := by
    rw [h4, len_putP, len_putP, h2, len_addP, h1]; simp; omega
  rw [hl4]
  unfold loopP
  rw [add_put, ← addP_assoc]
  simp only [List.map_cons, List.map_nil, mv11, mv3, Int.zero_add]
  have hc1 : addP a (([splitI e mode 1 ((q.1.length : Int) + 4), ins e 10 0 0], 1) : Pc α) = (a.1 ++ [splitI e mode ((a.1.length : Int) + 1) ((q.1.length : Int) + 4 + a.1.length), ins e 10 a.2 0], a.2 + 1) := by
    simp only [addP, List.map_cons, List.map_nil, mv_split, mv10, Int.zero_add]
    rw [show (1 : Int) + a.1.length = (a.1.length : Int) + 1 by omega]
  rw [hc1]
  have e4 : c4.1 = c2.1 ++ ins e 11 a.2 0 :: [ins e 3 a.1.length 0] := by rw [h4]; simp [putP]
  have e2 : ∀ L, c2.1 ++ L = a.1 ++ ins e 2 ((a.1.length : Int) + 1) 0 :: (ins e 10 a.2 0 :: (q.1.map (mv ((a.1.length + 2 : Nat) : Int) (a.2 + 1)) ++ L)) := fun L => by
    rw [h2, h1]; simp [addP, List.append_assoc]
  have e5 : c4.2 = a.2 + 1 + q.2 := by rw [h4, h2, h1]; rfl
  rw [e4, set_end, e2, set_end, e5]
  simp only [putP, addP, List.append_assoc, List.singleton_append, List.length_append, List.length_cons, List.length_nil, List.length_map, List.cons_append, List.nil_append, Nat.zero_add, ins]

/-- So many times perhaps, as the document lays them: the ends are told last. -/
def mayD (e : α) (q : Pc α) (c : Pc α) : Nat → Pc α × List Nat
  | 0 => (c, [])
  | n + 1 => (addP (putP (mayD e q c n).1 [ins e 2 (((mayD e q c n).1.1.length : Int) + 1) 0]) q, (mayD e q c n).2 ++ [(mayD e q c n).1.1.length])
def mayS (e : α) (mode out : Int) (kid a : Pc α) : Pc α := addP (putP a [splitI e mode ((a.1.length : Int) + 1) out]) kid
theorem mayP_snoc (e : α) (mode out : Int) (q : Pc α) : ∀ (n : Nat) (a : Pc α), mayP e mode out q (n + 1) a = mayS e mode out q (mayP e mode out q n a)
  | 0, a => rfl
  | n + 1, a => by
    rw [mayP, mayP_snoc e mode out q n, mayP]
theorem mayD_valid (e : α) (q c : Pc α) : ∀ (n : Nat), ∀ j ∈ (mayD e q c n).2, j < (mayD e q c n).1.1.length
  | 0, j, h => by simp [mayD] at h
  | n + 1, j, h => by
    simp only [mayD, List.mem_append, List.mem_singleton] at h
    simp only [mayD, len_addP, len_putP, List.length_singleton]
    rcases h with h | h
    · have := mayD_valid e q c n j h; omega
    · omega
def closeI (lazy : Bool) (out : Int) (s : Nat) (i : Is α) : Is α := if lazy then ⟨i.op, out, (s : Int) + 1, i.mn, i.mx, i.set⟩ else ⟨i.op, i.x, out, i.mn, i.mx, i.set⟩
theorem close_split (e : α) (lazy : Bool) (mode out : Int) (s : Nat) (hm : lazy = decide (mode = 1)) : closeI lazy out s (ins e 2 ((s : Int) + 1) 0) = splitI e mode ((s : Int) + 1) out := by
  subst hm
  unfold closeI splitI
  by_cases h : mode = 1
  · simp [h, ins]
  · simp [h, ins]
theorem may_doc (e : α) (lazy : Bool) (mode out : Int) (a c q acc : Pc α) (hm : lazy = decide (mode = 1)) (hc : c = addP a acc) : ∀ (n : Nat), turnP (closeI lazy (out + a.1.length)) (mayD e q c n).2 (mayD e q c n).1 = addP a (mayP e mode out q n acc)
  | 0 => by simp only [mayD, turnP, turn, mayP]; exact hc
  | n + 1 => by
    have ih := may_doc e lazy mode out a c q acc hm hc n
    have hv := mayD_valid e q c n
    simp only [mayD]
    rw [turnP_add _ _ _ _ (by intro j hj; rw [len_putP]; simp only [List.mem_append, List.mem_singleton, List.length_singleton] at *; rcases hj with h | h; have := hv j h; omega; omega)]
    rw [turnP_new _ _ _ _ hv, ih, mayP_snoc]
    unfold mayS
    rw [← addP_assoc, add_put]
    have hl : ((mayD e q c n).1.1.length : Int) = (mayP e mode out q n acc).1.length + a.1.length := by
      have := congrArg (fun x => x.1.length) ih
      simp only [turnP_len, len_addP] at this
      omega
    simp only [List.map_cons, List.map_nil, mv_split]
    rw [close_split e lazy mode _ _ hm, hl]
    rw [show (mayP e mode out q n acc).1.length + 1 + a.1.length = ((mayP e mode out q n acc).1.length : Int) + a.1.length + 1 by omega]
theorem len_mayD (e : α) (q c : Pc α) : ∀ (n : Nat), (mayD e q c n).1.1.length = c.1.length + n * (q.1.length + 1)
  | 0 => by simp [mayD]
  | n + 1 => by simp only [mayD, len_addP, len_putP, len_mayD e q c n, List.length_singleton, Nat.succ_mul]; omega

/-- Alternatives but the last one, as the document lays them. -/
def altS (e : α) (r : Pc α × List Nat) (k : Pc α) : Pc α × List Nat :=
  (putP (addP (putP r.1 [ins e 2 ((r.1.1.length : Int) + 1) ((r.1.1.length : Int) + k.1.length + 2)]) k) [ins e 3 0 0], r.2 ++ [r.1.1.length + 1 + k.1.length])
def chS (e : α) (out : Int) (acc k : Pc α) : Pc α := putP (addP (putP acc [ins e 2 ((acc.1.length : Int) + 1) ((acc.1.length : Int) + k.1.length + 2)]) k) [ins e 3 out 0]
theorem chGo_snoc (e : α) (out : Int) (k : Pc α) : ∀ (l : List (Pc α)) (acc : Pc α), chGo e out (l ++ [k]) acc = addP (l.foldl (chS e out) acc) k
  | [], acc => rfl
  | [x], acc => rfl
  | x :: y :: l, acc => by
    rw [List.cons_append, List.cons_append, chGo, ← List.cons_append, chGo_snoc e out k (y :: l)]
    rfl
theorem snoc_rec {β : Type} {M : List β → Prop} (h0 : M []) (hs : ∀ l k, M l → M (l ++ [k])) (l : List β) : M l := by
  rw [← List.reverse_reverse l]
  induction l.reverse with
  | nil => exact h0
  | cons x xs ih => rw [List.reverse_cons]; exact hs _ _ ih
def jumpI (out : Int) (j : Nat) (i : Is α) : Is α := ⟨i.op, out, i.y, i.mn, i.mx, i.set⟩
theorem alt_doc (e : α) (out : Int) (a : Pc α) : ∀ (l : List (Pc α)), (∀ j ∈ (l.foldl (altS e) (a, [])).2, j < (l.foldl (altS e) (a, [])).1.1.length) ∧ turnP (jumpI (out + a.1.length)) (l.foldl (altS e) (a, [])).2 (l.foldl (altS e) (a, [])).1 = addP a (l.foldl (chS e out) ([], 0)) := by
  intro l
  refine snoc_rec (M := fun l => (∀ j ∈ (l.foldl (altS e) (a, [])).2, j < (l.foldl (altS e) (a, [])).1.1.length) ∧ turnP (jumpI (out + a.1.length)) (l.foldl (altS e) (a, [])).2 (l.foldl (altS e) (a, [])).1 = addP a (l.foldl (chS e out) ([], 0))) ⟨by intro j hj; simp at hj, by simp [turnP, turn, addP_zero]⟩ ?_ l
  intro l k ⟨hv, ih⟩
  simp only [List.foldl_append, List.foldl_cons, List.foldl_nil]
  generalize l.foldl (altS e) (a, []) = r at *
  generalize l.foldl (chS e out) ([], 0) = acc at *
  have hl : (r.1.1.length : Int) = acc.1.length + a.1.length := by
    have := congrArg (fun x => x.1.length) ih
    simp only [turnP_len, len_addP] at this
    omega
  have hv1 : ∀ j ∈ r.2, j < (putP r.1 [ins e 2 ((r.1.1.length : Int) + 1) ((r.1.1.length : Int) + k.1.length + 2)]).1.length := fun j hj => by rw [len_putP]; have := hv j hj; omega
  have hv2 : ∀ j ∈ r.2, j < (addP (putP r.1 [ins e 2 ((r.1.1.length : Int) + 1) ((r.1.1.length : Int) + k.1.length + 2)]) k).1.length := fun j hj => by rw [len_addP]; have := hv1 j hj; omega
  refine ⟨fun j hj => ?_, ?_⟩
  · simp only [altS, List.mem_append, List.mem_singleton, len_putP, len_addP, List.length_singleton] at *
    rcases hj with h | h
    · have := hv j h; omega
    · omega
  · unfold altS chS
    simp only
    have hn := turnP_new (jumpI (out + a.1.length)) r.2 (addP (putP r.1 [ins e 2 ((r.1.1.length : Int) + 1) ((r.1.1.length : Int) + k.1.length + 2)]) k) (ins e 3 0 0) hv2
    rw [show (addP (putP r.1 [ins e 2 ((r.1.1.length : Int) + 1) ((r.1.1.length : Int) + k.1.length + 2)]) k).1.length = r.1.1.length + 1 + k.1.length by rw [len_addP, len_putP]; rfl] at hn
    rw [hn, turnP_add _ _ _ _ hv1, turnP_put _ _ _ _ hv, ih, add_put, ← addP_assoc, add_put]
    simp only [List.map_cons, List.map_nil, mv2, mv3]
    rw [hl]
    rw [show (acc.1.length : Int) + 1 + a.1.length = acc.1.length + a.1.length + 1 by omega, show (acc.1.length : Int) + k.1.length + 2 + a.1.length = acc.1.length + a.1.length + k.1.length + 2 by omega]
    rfl
end Go.Proofs.YtjbcapnpknbbaaaGreat.cmp
