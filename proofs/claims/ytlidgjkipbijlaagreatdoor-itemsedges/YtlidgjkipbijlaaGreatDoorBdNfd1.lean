/- Texts that the proof leans on, one behind the other. -/
import Derived.Below
import Derived.Sort.WalkA
import Derived.Shelf.SlSortCmp.InsertionK
import Derived.Test.YtlidgjkipbijlaaGreatDoorProg

section
/- NFD over plain lists: the order of classes, and what stays of it. -/
set_option linter.unusedVariables false
set_option linter.unusedSimpArgs false
namespace Go.Proofs.YtlidgjkipbijlaaGreatDoor.nfd

variable {α : Type}
/-- On a list from its end: x goes behind those of greater keys. -/
def insR (key : α → Int) (x : α) : List α → List α
  | [] => [x]
  | h :: t => if key x < key h then h :: insR key x t else x :: h :: t
/-- An element more. -/
def stepR (key : α → Int) (o : List α) (x : α) : List α := if 0 < key x then insR key x o else x :: o
/-- The order, from its end. -/
def ordR (key : α → Int) (l : List α) : List α := l.foldl (stepR key) []
/-- The order. -/
def ordL (key : α → Int) (l : List α) : List α := (ordR key l).reverse
theorem ins_nil (key : α → Int) (x : α) : insR key x [] = [x] := rfl
theorem ins_go (key : α → Int) (x h : α) (t : List α) (c : key x < key h) : insR key x (h :: t) = h :: insR key x t := by rw [insR, if_pos c]
theorem ins_stop (key : α → Int) (x h : α) (t : List α) (c : ¬ key x < key h) : insR key x (h :: t) = x :: h :: t := by rw [insR, if_neg c]
theorem step_pos (key : α → Int) (o : List α) (x : α) (c : 0 < key x) : stepR key o x = insR key x o := by rw [stepR, if_pos c]
theorem step_zero (key : α → Int) (o : List α) (x : α) (c : ¬ 0 < key x) : stepR key o x = x :: o := by rw [stepR, if_neg c]
theorem ordR_snoc (key : α → Int) (l : List α) (x : α) : ordR key (l ++ [x]) = stepR key (ordR key l) x := by simp [ordR]
theorem ordR_append (key : α → Int) (a b : List α) : ordR key (a ++ b) = b.foldl (stepR key) (ordR key a) := by simp [ordR]

theorem ins_comm (key : α → Int) (r y : α) (c : key r < key y) : ∀ X : List α, insR key y (insR key r X) = insR key r (insR key y X)
  | [] => by rw [ins_nil, ins_nil, ins_stop _ _ _ _ (by omega), ins_go _ _ _ _ c, ins_nil]
  | h :: t => by
    by_cases h1 : key y < key h
    · rw [ins_go key r h t (by omega), ins_go key y h _ h1, ins_go key y h t h1, ins_go key r h _ (by omega), ins_comm key r y c t]
    · by_cases h2 : key r < key h
      · rw [ins_go key r h t h2, ins_stop key y h _ h1, ins_stop key y h t h1, ins_go key r y _ c, ins_go key r h t h2]
      · rw [ins_stop key r h t h2, ins_stop key y r _ (by omega), ins_stop key y h t h1, ins_go key r y _ c, ins_stop key r h t h2]
/-- An ordered list's elements, one behind the other. -/
def runR (key : α → Int) (X o : List α) : List α := o.foldr (fun x o => stepR key o x) X
theorem runR_cons (key : α → Int) (X o : List α) (x : α) : runR key X (x :: o) = stepR key (runR key X o) x := rfl
theorem runR_ins (key : α → Int) (X : List α) (r : α) (c : 0 < key r) : ∀ o : List α, runR key X (insR key r o) = insR key r (runR key X o)
  | [] => by rw [ins_nil, runR_cons, step_pos _ _ _ c]
  | h :: t => by
    by_cases h1 : key r < key h
    · rw [ins_go _ _ _ _ h1, runR_cons, runR_ins key X r c t, runR_cons, step_pos _ _ _ (by omega), step_pos _ _ _ (by omega), ins_comm _ _ _ h1]
    · rw [ins_stop _ _ _ _ h1, runR_cons, step_pos _ _ _ c]
theorem snoc_ind {P : List α → Prop} (h0 : P []) (h1 : ∀ l x, P l → P (l ++ [x])) (l : List α) : P l := by
  have : ∀ l : List α, P l.reverse := fun l => by
    induction l with
    | nil => exact h0
    | cons x l ih => rw [List.reverse_cons]; exact h1 _ _ ih
  simpa using this l.reverse
theorem runR_ord (key : α → Int) (X l : List α) : runR key X (ordR key l) = l.foldl (stepR key) X := by
  refine snoc_ind (P := fun l => runR key X (ordR key l) = l.foldl (stepR key) X) rfl (fun l x ih => ?_) l
  show runR key X (ordR key (l ++ [x])) = (l ++ [x]).foldl (stepR key) X
  rw [ordR_snoc, List.foldl_append, ← ih]
  show _ = stepR key (runR key X (ordR key l)) x
  by_cases c : 0 < key x
  · rw [step_pos _ _ _ c, step_pos _ _ _ c, runR_ins _ _ _ c]
  · rw [step_zero _ _ _ c, runR_cons, step_zero _ _ _ c]
theorem fold_ordL (key : α → Int) (X l : List α) : (ordL key l).foldl (stepR key) X = l.foldl (stepR key) X := by
  unfold ordL
  rw [List.foldl_reverse, ← runR_ord]
  rfl
theorem ordR_twice (key : α → Int) (l : List α) : ordR key (ordL key l) = ordR key l := fold_ordL key [] l
theorem ordL_twice (key : α → Int) (l : List α) : ordL key (ordL key l) = ordL key l := by
  show (ordR key (ordL key l)).reverse = (ordR key l).reverse
  rw [ordR_twice]
theorem mem_ins (key : α → Int) (x y : α) : ∀ o : List α, y ∈ insR key x o ↔ y = x ∨ y ∈ o
  | [] => by simp [insR]
  | h :: t => by
    by_cases c : key x < key h
    · rw [ins_go _ _ _ _ c, List.mem_cons, mem_ins key x y t, List.mem_cons]; constructor <;> (intro h; rcases h with h | h | h <;> simp [h])
    · rw [ins_stop _ _ _ _ c, List.mem_cons]
theorem mem_step (key : α → Int) (x y : α) (o : List α) : y ∈ stepR key o x ↔ y = x ∨ y ∈ o := by
  unfold stepR
  split
  · exact mem_ins key x y o
  · simp
theorem mem_ordR (key : α → Int) (l : List α) (y : α) : y ∈ ordR key l ↔ y ∈ l := by
  refine snoc_ind (P := fun l => y ∈ ordR key l ↔ y ∈ l) Iff.rfl (fun l x ih => ?_) l
  show y ∈ ordR key (l ++ [x]) ↔ y ∈ l ++ [x]
  rw [ordR_snoc, mem_step, ih, List.mem_append]
  simp [or_comm]
theorem mem_ordL (key : α → Int) (l : List α) (y : α) : y ∈ ordL key l ↔ y ∈ l := by unfold ordL; rw [List.mem_reverse, mem_ordR]
theorem len_ins (key : α → Int) (x : α) : ∀ o : List α, (insR key x o).length = o.length + 1
  | [] => rfl
  | h :: t => by
    by_cases c : key x < key h
    · rw [ins_go _ _ _ _ c, List.length_cons, len_ins key x t, List.length_cons]
    · rw [ins_stop _ _ _ _ c]; rfl
theorem len_step (key : α → Int) (x : α) (o : List α) : (stepR key o x).length = o.length + 1 := by
  unfold stepR
  split
  · exact len_ins key x o
  · rfl
theorem len_ordL (key : α → Int) (l : List α) : (ordL key l).length = l.length := by
  unfold ordL
  rw [List.length_reverse]
  refine snoc_ind (P := fun l => (ordR key l).length = l.length) rfl (fun l x ih => ?_) l
  show (ordR key (l ++ [x])).length = (l ++ [x]).length
  rw [ordR_snoc, len_step, ih]
  simp
/-- Another type with the same keys. -/
theorem ins_map {β : Type} (key : α → Int) (key' : β → Int) (f : β → α) (hf : ∀ x, key (f x) = key' x) (x : β) : ∀ o : List β, insR key (f x) (o.map f) = (insR key' x o).map f
  | [] => rfl
  | h :: t => by
    by_cases c : key' x < key' h
    · rw [List.map_cons, ins_go _ _ _ _ (by rw [hf, hf]; exact c), ins_go _ _ _ _ c, ins_map key key' f hf x t, List.map_cons]
    · rw [List.map_cons, ins_stop _ _ _ _ (by rw [hf, hf]; exact c), ins_stop _ _ _ _ c, List.map_cons, List.map_cons]
theorem step_map {β : Type} (key : α → Int) (key' : β → Int) (f : β → α) (hf : ∀ x, key (f x) = key' x) (x : β) (o : List β) : stepR key (o.map f) (f x) = (stepR key' o x).map f := by
  by_cases c : 0 < key' x
  · rw [step_pos _ _ _ (by rw [hf]; exact c), step_pos _ _ _ c, ins_map key key' f hf]
  · rw [step_zero _ _ _ (by rw [hf]; exact c), step_zero _ _ _ c, List.map_cons]
theorem ordL_map {β : Type} (key : α → Int) (key' : β → Int) (f : β → α) (hf : ∀ x, key (f x) = key' x) (l : List β) : ordL key (l.map f) = (ordL key' l).map f := by
  have : ordR key (l.map f) = (ordR key' l).map f := by
    refine snoc_ind (P := fun l => ordR key (l.map f) = (ordR key' l).map f) rfl (fun l x ih => ?_) l
    show ordR key ((l ++ [x]).map f) = (ordR key' (l ++ [x])).map f
    rw [List.map_append, List.map_cons, List.map_nil, ordR_snoc, ordR_snoc, ih, step_map key key' f hf]
  unfold ordL
  rw [this, List.map_reverse]

/-- No key above 0 stands behind a greater one (from the end). -/
def AdjR (key : α → Int) : List α → Prop
  | [] => True
  | h :: t => (∀ g, t.head? = some g → ¬ (0 < key h ∧ key h < key g)) ∧ AdjR key t
/-- Rising keys. -/
def Srt (key : α → Int) (l : List α) : Prop := l.Pairwise (fun a b => key a ≤ key b)
/-- The same elements, those of one key in the same order. -/
def FE (key : α → Int) (l m : List α) : Prop := ∀ c : Int, l.filter (fun x => key x == c) = m.filter (fun x => key x == c)
theorem FE.refl (key : α → Int) (l : List α) : FE key l l := fun _ => rfl
theorem FE.trans {key : α → Int} {a b c : List α} (h : FE key a b) (k : FE key b c) : FE key a c := fun x => (h x).trans (k x)
theorem FE.symm {key : α → Int} {a b : List α} (h : FE key a b) : FE key b a := fun x => (h x).symm
theorem FE.mem {key : α → Int} {a b : List α} (h : FE key a b) (x : α) : x ∈ a ↔ x ∈ b := by
  have := h (key x)
  constructor
  · intro hx
    have h1 : x ∈ a.filter (fun y => key y == key x) := List.mem_filter.2 ⟨hx, by simp⟩
    rw [this] at h1
    exact (List.mem_filter.1 h1).1
  · intro hx
    have h1 : x ∈ b.filter (fun y => key y == key x) := List.mem_filter.2 ⟨hx, by simp⟩
    rw [← this] at h1
    exact (List.mem_filter.1 h1).1
theorem FE.append {key : α → Int} {a b c d : List α} (h : FE key a b) (k : FE key c d) : FE key (a ++ c) (b ++ d) := fun x => by rw [List.filter_append, List.filter_append, h x, k x]
theorem FE.nil {key : α → Int} {b : List α} (h : FE key [] b) : b = [] := by
  cases b with
  | nil => rfl
  | cons x b => have := (h.mem x).2 (by simp); simp at this
theorem srt_unique (key : α → Int) : ∀ (a b : List α), Srt key a → Srt key b → FE key a b → a = b
  | [], b, _, _, h => h.nil.symm
  | x :: a, [], _, _, h => by have := h.symm.nil; cases this
  | x :: a, y :: b, ha, hb, h => by
    have ha' := List.pairwise_cons.1 ha
    have hb' := List.pairwise_cons.1 hb
    have h1 : key x ≤ key y := by
      have := (h.mem y).2 (by simp)
      rcases List.mem_cons.1 this with rfl | hm
      · exact Int.le_refl _
      · exact ha'.1 y hm
    have h2 : key y ≤ key x := by
      have := (h.mem x).1 (by simp)
      rcases List.mem_cons.1 this with rfl | hm
      · exact Int.le_refl _
      · exact hb'.1 x hm
    have e : key x = key y := by omega
    have hc := h (key x)
    rw [List.filter_cons_of_pos (by simp), List.filter_cons_of_pos (by simp [e])] at hc
    injection hc with hxy hrest
    subst hxy
    congr 1
    refine srt_unique key a b ha'.2 hb'.2 fun c => ?_
    have hcc := h c
    by_cases cc : key x = c
    · rw [List.filter_cons_of_pos (by simp [cc]), List.filter_cons_of_pos (by simp [cc])] at hcc
      injection hcc
    · rw [List.filter_cons_of_neg (by simp [cc]), List.filter_cons_of_neg (by simp [cc])] at hcc
      exact hcc

/-- Falling keys. -/
def Fal (key : α → Int) (l : List α) : Prop := l.Pairwise (fun a b => key b ≤ key a)
theorem ins_fal (key : α → Int) (x : α) : ∀ o : List α, Fal key o → Fal key (insR key x o)
  | [], _ => by simp [insR, Fal]
  | h :: t, hF => by
    have hF' := List.pairwise_cons.1 hF
    by_cases c : key x < key h
    · rw [ins_go _ _ _ _ c]
      refine List.pairwise_cons.2 ⟨fun y hy => ?_, ins_fal key x t hF'.2⟩
      rcases (mem_ins key x y t).1 hy with rfl | hy
      · omega
      · exact hF'.1 y hy
    · rw [ins_stop _ _ _ _ c]
      refine List.pairwise_cons.2 ⟨fun y hy => ?_, hF⟩
      rcases List.mem_cons.1 hy with rfl | hy
      · omega
      · have := hF'.1 y hy; omega
theorem ins_filter (key : α → Int) (x : α) (c : Int) : ∀ o : List α, (insR key x o).filter (fun y => key y == c) = if key x = c then x :: o.filter (fun y => key y == c) else o.filter (fun y => key y == c)
  | [] => by
    by_cases e : key x = c
    · simp [insR, e]
    · simp [insR, e]
  | h :: t => by
    by_cases g : key x < key h
    · rw [ins_go _ _ _ _ g]
      by_cases e : key x = c
      · have : ¬ key h = c := by omega
        rw [List.filter_cons_of_neg (by simp [this]), ins_filter key x c t, if_pos e, if_pos e, List.filter_cons_of_neg (by simp [this])]
      · by_cases e2 : key h = c
        · rw [List.filter_cons_of_pos (by simp [e2]), ins_filter key x c t, if_neg e, if_neg e, List.filter_cons_of_pos (by simp [e2])]
        · rw [List.filter_cons_of_neg (by simp [e2]), ins_filter key x c t, if_neg e, if_neg e, List.filter_cons_of_neg (by simp [e2])]
    · rw [ins_stop _ _ _ _ g]
      by_cases e : key x = c
      · rw [List.filter_cons_of_pos (by simp [e]), if_pos e]
      · rw [List.filter_cons_of_neg (by simp [e]), if_neg e]
/-- A run of keys above 0 is put in its stable order. -/
theorem run_ord (key : α → Int) (S : List α) (hS : ∀ x ∈ S, 0 < key x) : Fal key (ordR key S) ∧ ∀ c, (ordR key S).filter (fun y => key y == c) = (S.filter (fun y => key y == c)).reverse := by
  revert hS
  refine snoc_ind (P := fun S => (∀ x ∈ S, 0 < key x) → Fal key (ordR key S) ∧ ∀ c, (ordR key S).filter (fun y => key y == c) = (S.filter (fun y => key y == c)).reverse) (fun _ => ⟨List.Pairwise.nil, fun _ => rfl⟩) (fun l x ih hS => ?_) S
  obtain ⟨h1, h2⟩ := ih fun y hy => hS y (by simp [hy])
  have hx : 0 < key x := hS x (by simp)
  rw [ordR_snoc, step_pos _ _ _ hx]
  refine ⟨ins_fal key x _ h1, fun c => ?_⟩
  rw [ins_filter, h2, List.filter_append, List.reverse_append]
  by_cases e : key x = c
  · rw [if_pos e, List.filter_cons_of_pos (by simp [e])]; rfl
  · rw [if_neg e, List.filter_cons_of_neg (by simp [e])]; rfl
theorem run_sorted (key : α → Int) (S T : List α) (hS : ∀ x ∈ S, 0 < key x) (hT : Srt key T) (hF : FE key S T) : ordL key S = T := by
  obtain ⟨h1, h2⟩ := run_ord key S hS
  refine srt_unique key _ _ ?_ hT ?_
  · unfold ordL Srt
    rw [List.pairwise_reverse]
    exact h1
  · refine FE.trans (fun c => ?_) hF
    unfold ordL
    rw [List.filter_reverse, h2, List.reverse_reverse]
/-- A run behind a key of 0. -/
theorem ins_onto (key : α → Int) (x : α) (X : List α) (hX : ∀ g, X.head? = some g → ¬ key x < key g) : ∀ A : List α, insR key x (A ++ X) = insR key x A ++ X
  | [] => by
    cases X with
    | nil => rfl
    | cons g X => rw [List.nil_append, ins_stop _ _ _ _ (hX g rfl)]; rfl
  | h :: t => by
    by_cases c : key x < key h
    · rw [List.cons_append, ins_go _ _ _ _ c, ins_onto key x X hX t, ins_go _ _ _ _ c]; rfl
    · rw [List.cons_append, ins_stop _ _ _ _ c, ins_stop _ _ _ _ c]; rfl
theorem run_onto (key : α → Int) (X S : List α) (hX : ∀ g, X.head? = some g → key g ≤ 0) (hS : ∀ x ∈ S, 0 < key x) : S.foldl (stepR key) X = ordR key S ++ X := by
  revert hS
  refine snoc_ind (P := fun S => (∀ x ∈ S, 0 < key x) → S.foldl (stepR key) X = ordR key S ++ X) (fun _ => rfl) (fun l x ih hS => ?_) S
  have hx : 0 < key x := hS x (by simp)
  rw [List.foldl_append, ih fun y hy => hS y (by simp [hy])]
  show stepR key (ordR key l ++ X) x = _
  rw [ordR_snoc, step_pos _ _ _ hx, step_pos _ _ _ hx, ins_onto key x X fun g hg => by have := hX g hg; omega]
/-- Where a new run begins: at the start, or behind a key of 0. -/
def Open (key : α → Int) (A : List α) : Prop := A = [] ∨ ∃ B z, A = B ++ [z] ∧ key z ≤ 0
theorem open_run (key : α → Int) (A S T : List α) (hA : Open key A) (hS : ∀ x ∈ S, 0 < key x) (hT : Srt key T) (hF : FE key S T) : ordL key (A ++ S) = ordL key A ++ T := by
  have hX : ∀ g, (ordR key A).head? = some g → key g ≤ 0 := by
    rcases hA with rfl | ⟨B, z, rfl, hz⟩
    · intro g h; simp [ordR] at h
    · intro g h; rw [ordR_snoc, step_zero _ _ _ (by omega)] at h; simp at h; subst h; exact hz
  rw [← run_sorted key S T hS hT hF]
  unfold ordL
  rw [ordR_append, run_onto key _ S hX hS, List.reverse_append]
theorem ordL_zero (key : α → Int) (A : List α) (z : α) (hz : key z ≤ 0) : ordL key (A ++ [z]) = ordL key A ++ [z] := by
  unfold ordL
  rw [ordR_snoc, step_zero _ _ _ (by omega), List.reverse_cons]
end Go.Proofs.YtlidgjkipbijlaaGreatDoor.nfd
end

section
/- A stable sort over plain lists: exchanges, insertion, a merge's step, blocks. -/
set_option linter.unusedVariables false
set_option linter.unusedSimpArgs false
namespace Go.Proofs.YtlidgjkipbijlaaGreatDoor.nfd
open Go.Sort Go.Proofs

theorem swp_comm {α : Type} [Inhabited α] (d : Array α) (i j : Nat) (h : i ≠ j) : swp d i j = swp d j i := by
  unfold swp
  rw [Array.setIfInBounds_comm _ _ h]
theorem get_mid {α : Type} [Inhabited α] (A R : List α) (x : α) : (A ++ x :: R).toArray[A.length]! = x := by
  rw [getElem!_pos _ _ (by simp)]
  simp
theorem get_at {α : Type} [Inhabited α] (l : List α) (i : Nat) (x : α) (h : l[i]? = some x) : l.toArray[i]! = x := by
  obtain ⟨h1, h2⟩ := List.getElem?_eq_some_iff.1 h
  rw [getElem!_pos _ _ (by simpa using h1)]
  simpa using h2
theorem swp_list {α : Type} [Inhabited α] (A B C : List α) (x y : α) (i j : Nat) (hi : i = A.length) (hj : j = A.length + 1 + B.length) : swp (A ++ x :: (B ++ y :: C)).toArray i j = (A ++ y :: (B ++ x :: C)).toArray := by
  subst hi hj
  have e1 : (A ++ x :: (B ++ y :: C)).toArray[A.length]! = x := get_mid _ _ _
  have e2 : (A ++ x :: (B ++ y :: C)).toArray[A.length + 1 + B.length]! = y := by
    refine get_at _ _ _ ?_
    rw [List.getElem?_append_right (by omega), show A.length + 1 + B.length - A.length = B.length + 1 by omega, List.getElem?_cons_succ, List.getElem?_append_right (by omega)]
    simp
  unfold swp
  rw [e1, e2, List.setIfInBounds_toArray, List.setIfInBounds_toArray]
  congr 1
  rw [List.set_append_right _ _ (by omega), show A.length - A.length = 0 by omega, List.set_cons_zero, List.set_append_right _ _ (by omega), show A.length + 1 + B.length - A.length = B.length + 1 by omega, List.set_cons_succ, List.set_append_right _ _ (by omega), show B.length - B.length = 0 by omega, List.set_cons_zero]
/-- Two neighbours. -/
theorem swp_two {α : Type} [Inhabited α] (A C : List α) (x y : α) (i j : Nat) (hi : i = A.length) (hj : j = A.length + 1) : swp (A ++ x :: y :: C).toArray i j = (A ++ y :: x :: C).toArray := swp_list A [] C x y i j hi (by simpa using hj)
theorem swp_owt {α : Type} [Inhabited α] (A C : List α) (x y : α) (i j : Nat) (hi : i = A.length) (hj : j = A.length + 1) : swp (A ++ x :: y :: C).toArray j i = (A ++ y :: x :: C).toArray := by
  rw [swp_comm _ _ _ (by omega)]; exact swp_two A C x y i j hi hj

/-! Insertion -/
/-- The stable order, from its end. -/
def srtR {α : Type} (key : α → Int) (l : List α) : List α := l.foldl (fun o x => insR key x o) []
theorem srtR_snoc {α : Type} (key : α → Int) (l : List α) (x : α) : srtR key (l ++ [x]) = insR key x (srtR key l) := by simp [srtR]
theorem srtR_len {α : Type} (key : α → Int) (l : List α) : (srtR key l).length = l.length := by
  refine snoc_ind (P := fun l => (srtR key l).length = l.length) rfl (fun l x ih => ?_) l
  show (srtR key (l ++ [x])).length = (l ++ [x]).length
  rw [srtR_snoc, len_ins, ih]
  simp
theorem srtR_ok {α : Type} (key : α → Int) (l : List α) : Srt key (srtR key l).reverse ∧ FE key l (srtR key l).reverse := by
  have h : Fal key (srtR key l) ∧ ∀ c, (srtR key l).filter (fun y => key y == c) = (l.filter (fun y => key y == c)).reverse := by
    refine snoc_ind (P := fun l => Fal key (srtR key l) ∧ ∀ c, (srtR key l).filter (fun y => key y == c) = (l.filter (fun y => key y == c)).reverse) ⟨List.Pairwise.nil, fun _ => rfl⟩ (fun l x ih => ?_) l
    obtain ⟨h1, h2⟩ := ih
    rw [srtR_snoc]
    refine ⟨ins_fal key x _ h1, fun c => ?_⟩
    rw [ins_filter, h2, List.filter_append, List.reverse_append]
    by_cases e : key x = c
    · rw [if_pos e, List.filter_cons_of_pos (by simp [e])]; rfl
    · rw [if_neg e, List.filter_cons_of_neg (by simp [e])]; rfl
  refine ⟨?_, fun c => ?_⟩
  · unfold Srt; rw [List.pairwise_reverse]; exact h.1
  · rw [List.filter_reverse, h.2, List.reverse_reverse]
theorem ins_inner {α : Type} [Inhabited α] (key : α → Int) (lt : α → α → Bool) (hlt : ∀ x y, lt x y = decide (key x < key y)) (P : List α) (x : α) : ∀ (R Q : List α) (j : Nat), j = P.length + R.length → insInner lt P.length j (P ++ (R.reverse ++ x :: Q)).toArray = (P ++ ((insR key x R).reverse ++ Q)).toArray
  | [], Q, j, hj => by
    rw [insInner_stop _ _ _ _ (.inl (by simp at hj; omega))]
    simp [insR]
  | h :: t, Q, j, hj => by
    simp only [List.length_cons] at hj
    have e0 : (P ++ ((h :: t).reverse ++ x :: Q)) = (P ++ t.reverse) ++ h :: x :: Q := by simp
    have e1 : (P ++ ((h :: t).reverse ++ x :: Q)).toArray[j]! = x := by
      rw [e0]
      refine get_at _ _ _ ?_
      rw [List.getElem?_append_right (by simp; omega)]
      rw [show j - (P ++ t.reverse).length = 1 by simp; omega]
      rfl
    have e2 : (P ++ ((h :: t).reverse ++ x :: Q)).toArray[j - 1]! = h := by
      rw [e0]
      refine get_at _ _ _ ?_
      rw [List.getElem?_append_right (by simp; omega)]
      rw [show j - 1 - (P ++ t.reverse).length = 0 by simp; omega]
      rfl
    by_cases c : key x < key h
    · rw [insInner_go _ _ _ _ (by omega) (by rw [e1, e2, hlt]; simpa using c), e0, swp_owt _ _ _ _ (j - 1) j (by simp; omega) (by simp; omega), ins_go _ _ _ _ c]
      have := ins_inner key lt hlt P x t (h :: Q) (j - 1) (by omega)
      rw [List.append_assoc, this]
      simp
    · rw [insInner_stop _ _ _ _ (.inr (by rw [e1, e2, hlt]; simpa using c)), ins_stop _ _ _ _ c]
      simp
theorem ins_outer {α : Type} [Inhabited α] (key : α → Int) (lt : α → α → Bool) (hlt : ∀ x y, lt x y = decide (key x < key y)) (P Q : List α) : ∀ (T S : List α) (i b : Nat), i = P.length + S.length → b = P.length + S.length + T.length → insOuter lt P.length b i (P ++ ((srtR key S).reverse ++ (T ++ Q))).toArray = (P ++ ((srtR key (S ++ T)).reverse ++ Q)).toArray
  | [], S, i, b, hi, hb => by
    rw [insOuter_stop _ _ _ _ _ (by simp at hb; omega)]
    simp
  | x :: T, S, i, b, hi, hb => by
    simp only [List.length_cons] at hb
    rw [insOuter_go _ _ _ _ _ (by omega), List.cons_append, ins_inner key lt hlt P x _ _ i (by rw [srtR_len]; exact hi), ← srtR_snoc]
    rw [ins_outer key lt hlt P Q T (S ++ [x]) (i + 1) b (by simp; omega) (by simp; omega)]
    simp
theorem ins_sort {α : Type} [Inhabited α] (key : α → Int) (lt : α → α → Bool) (hlt : ∀ x y, lt x y = decide (key x < key y)) (P S Q : List α) (a b : Nat) (ha : a = P.length) (hb : b = P.length + S.length) : insertionSort lt (P ++ (S ++ Q)).toArray a b = (P ++ ((srtR key S).reverse ++ Q)).toArray := by
  subst ha
  unfold insertionSort
  cases S with
  | nil => rw [insOuter_stop _ _ _ _ _ (by simp at hb; omega)]; rfl
  | cons x S =>
    simp only [List.length_cons] at hb
    have := ins_outer key lt hlt P Q S [x] (P.length + 1) b (by simp) (by simp; omega)
    rw [show P ++ (x :: S ++ Q) = P ++ ((srtR key [x]).reverse ++ (S ++ Q)) from rfl, this]
    rfl

/-! A merge's step -/
theorem merge_step {α : Type} (key : α → Int) (A U V B L R : List α) (hU : Srt key (A ++ U)) (hV : Srt key (V ++ B)) (h1 : ∀ v ∈ V, ∀ u ∈ U, key v < key u) (h2 : ∀ x ∈ A, ∀ y ∈ B, key x ≤ key y) (hL : Srt key L) (fL : FE key (A ++ V) L) (hR : Srt key R) (fR : FE key (U ++ B) R) :
    Srt key (L ++ R) ∧ FE key (A ++ U ++ (V ++ B)) (L ++ R) := by
  have hU' := List.pairwise_append.1 hU
  have hV' := List.pairwise_append.1 hV
  constructor
  · refine List.pairwise_append.2 ⟨hL, hR, fun x hx y hy => ?_⟩
    rcases List.mem_append.1 ((fL.mem x).2 hx) with hx | hx
    · rcases List.mem_append.1 ((fR.mem y).2 hy) with hy | hy
      · exact hU'.2.2 x hx y hy
      · exact h2 x hx y hy
    · rcases List.mem_append.1 ((fR.mem y).2 hy) with hy | hy
      · exact Int.le_of_lt (h1 x hx y hy)
      · exact hV'.2.2 x hx y hy
  · refine FE.trans (fun c => ?_) (fL.append fR)
    simp only [List.filter_append, List.append_assoc]
    congr 1
    simp only [← List.append_assoc]
    congr 1
    by_cases hv : ∃ v ∈ V, key v = c
    · obtain ⟨v, hv, e⟩ := hv
      have : U.filter (fun x => key x == c) = [] := by
        rw [List.filter_eq_nil_iff]
        intro u hu
        have := h1 v hv u hu
        simp
        omega
      rw [this]
      simp
    · have : V.filter (fun x => key x == c) = [] := by
        rw [List.filter_eq_nil_iff]
        intro v hv'
        simp
        exact fun e => hv ⟨v, hv', e⟩
      rw [this]
      simp
/-- Two parts, the one behind ahead of the other. -/
theorem merge_rot {α : Type} (key : α → Int) (A U V B : List α) (hU : Srt key (A ++ U)) (hV : Srt key (V ++ B)) (h1 : ∀ v ∈ V, ∀ u ∈ U, key v < key u) (h2 : ∀ x ∈ A, ∀ y ∈ B, key x ≤ key y) (h3 : Srt key (A ++ V)) (h4 : Srt key (U ++ B)) :
    Srt key (A ++ V ++ (U ++ B)) ∧ FE key (A ++ U ++ (V ++ B)) (A ++ V ++ (U ++ B)) := merge_step key A U V B _ _ hU hV h1 h2 h3 (FE.refl _ _) h4 (FE.refl _ _)

/-! Parts by their places -/
/-- From a to b the keys rise. -/
def Seg {α : Type} (key : α → Int) (l : List α) (a b : Nat) : Prop := ∀ i j x y, a ≤ i → i < j → j < b → l[i]? = some x → l[j]? = some y → key x ≤ key y
theorem seg_srt {α : Type} {key : α → Int} {P S Q : List α} (h : Srt key S) (a b : Nat) (ha : P.length ≤ a) (hb : b ≤ P.length + S.length) : Seg key (P ++ (S ++ Q)) a b := fun i j x y h1 h2 h3 hx hy => by
  rw [List.getElem?_append_right (by omega), List.getElem?_append_left (by omega)] at hx hy
  obtain ⟨hx1, hx2⟩ := List.getElem?_eq_some_iff.1 hx
  obtain ⟨hy1, hy2⟩ := List.getElem?_eq_some_iff.1 hy
  have := List.pairwise_iff_getElem.1 h _ _ hx1 hy1 (by omega)
  rw [hx2, hy2] at this
  exact this
theorem srt_seg {α : Type} {key : α → Int} {P S Q : List α} (a b : Nat) (ha : a ≤ P.length) (hb : P.length + S.length ≤ b) (h : Seg key (P ++ (S ++ Q)) a b) : Srt key S := by
  refine List.pairwise_iff_getElem.2 fun i j hi hj hij => ?_
  refine h (P.length + i) (P.length + j) _ _ (by omega) (by omega) (by omega) ?_ ?_
  · rw [List.getElem?_append_right (by omega), Nat.add_sub_cancel_left, List.getElem?_append_left hi]; exact List.getElem?_eq_getElem hi
  · rw [List.getElem?_append_right (by omega), Nat.add_sub_cancel_left, List.getElem?_append_left hj]; exact List.getElem?_eq_getElem hj
theorem seg_kept {α : Type} {key : α → Int} {P S S' Q : List α} (hl : S'.length = S.length) (a b : Nat) (hab : b ≤ P.length ∨ P.length + S.length ≤ a) (h : Seg key (P ++ (S ++ Q)) a b) : Seg key (P ++ (S' ++ Q)) a b := fun i j x y h1 h2 h3 hx hy => by
  refine h i j x y h1 h2 h3 ?_ ?_
  · rcases hab with hab | hab
    · rw [List.getElem?_append_left (by omega)] at hx ⊢; exact hx
    · rw [List.getElem?_append_right (by omega), List.getElem?_append_right (by omega)] at hx ⊢; rw [hl] at hx; exact hx
  · rcases hab with hab | hab
    · rw [List.getElem?_append_left (by omega)] at hy ⊢; exact hy
    · rw [List.getElem?_append_right (by omega), List.getElem?_append_right (by omega)] at hy ⊢; rw [hl] at hy; exact hy
theorem seg_all {α : Type} {key : α → Int} {l : List α} {b : Nat} (hb : l.length ≤ b) (h : Seg key l 0 b) : Srt key l := by
  refine List.pairwise_iff_getElem.2 fun i j hi hj hij => h i j _ _ (Nat.zero_le _) hij (by omega) (List.getElem?_eq_getElem hi) (List.getElem?_eq_getElem hj)
theorem seg_past {α : Type} {key : α → Int} {l : List α} {a b : Nat} (ha : l.length ≤ a) : Seg key l a b := fun i j x y h1 h2 h3 hx hy => by
  have := (List.getElem?_eq_some_iff.1 hx).1; omega
/-- A list in parts. -/
theorem parts3 {α : Type} (l : List α) (a b : Nat) (h1 : a ≤ b) (h2 : b ≤ l.length) : ∃ P S Q, l = P ++ (S ++ Q) ∧ P.length = a ∧ S.length = b - a :=
  ⟨l.take a, (l.drop a).take (b - a), (l.drop a).drop (b - a), by rw [List.take_append_drop, List.take_append_drop], by simp; omega, by simp; omega⟩
theorem FE.mid {α : Type} {key : α → Int} {P S S' Q : List α} (h : FE key S S') : FE key (P ++ (S ++ Q)) (P ++ (S' ++ Q)) := (FE.refl key P).append (h.append (FE.refl key Q))
theorem FE.len {α : Type} {key : α → Int} : ∀ {a b : List α}, FE key a b → a.length = b.length
  | [], b, h => by rw [h.nil]
  | x :: a, b, h => by
    have hc := h (key x)
    rw [List.filter_cons_of_pos (by simp)] at hc
    obtain ⟨b1, b2, rfl, h1, h2⟩ : ∃ b1 b2, b = b1 ++ x :: b2 ∧ (∀ y ∈ b1, ¬ key y = key x) ∧ True := by
      clear h
      induction b with
      | nil => cases hc
      | cons y b ih =>
        by_cases e : key y = key x
        · rw [List.filter_cons_of_pos (by simp [e])] at hc
          injection hc with h1 h2
          subst h1
          exact ⟨[], b, rfl, by simp, trivial⟩
        · rw [List.filter_cons_of_neg (by simp [e])] at hc
          obtain ⟨b1, b2, rfl, h1, _⟩ := ih hc
          exact ⟨y :: b1, b2, rfl, by intro z hz; rcases List.mem_cons.1 hz with rfl | hz; exact e; exact h1 z hz, trivial⟩
    have : FE key a (b1 ++ b2) := fun c => by
      have := h c
      rw [List.filter_append] at this ⊢
      by_cases e : key x = c
      · rw [List.filter_cons_of_pos (by simp [e]), List.filter_cons_of_pos (by simp [e])] at this
        have hn : b1.filter (fun y => key y == c) = [] := by
          rw [List.filter_eq_nil_iff]
          intro y hy
          have := h1 y hy
          simp
          omega
        rw [hn] at this ⊢
        simpa using this
      · rw [List.filter_cons_of_neg (by simp [e]), List.filter_cons_of_neg (by simp [e])] at this
        exact this
    have := FE.len this
    simp only [List.length_append, List.length_cons] at this ⊢
    omega
end Go.Proofs.YtlidgjkipbijlaaGreatDoor.nfd
end

section
/- The shelf's contract on the insertion sort, at this dump's numbers. -/
namespace Go.Proofs
open Go.Shelf
def Tryz.insR_ren : Go.Shelf.Ren := ⟨fun | 20 => 134 | n => n, fun | 24 => 30 | 22 => 28 | 3 => 3 | 25 => 144 | 4 => 4 | 0 => 0 | n => n, fun | n => n⟩
theorem Tryz.insR : Go.Proofs.SlLaysF0.n20 Tryz.prog Tryz.insR_ren := {
  mixed := by kernel_rfl
  f20 := ⟨Tryz.f134.name, by decide, Tryz.func134.trans (congrArg some (by kernel_rfl))⟩
  t0 := Tryz.underlying0
  a0 := Tryz.isAgg0
  z0 := Tryz.sizeOf0
  v0 := Tryz.zeroValue0
  t3 := Tryz.underlying3
  a3 := Tryz.isAgg3
  z3 := Tryz.sizeOf3
  v3 := Tryz.zeroValue3
  t4 := Tryz.underlying4
  a4 := Tryz.isAgg4
  z4 := Tryz.sizeOf4
  v4 := Tryz.zeroValue4
  t22 := Tryz.underlying28
  a22 := Tryz.isAgg28
  z22 := Tryz.sizeOf28
  v22 := Tryz.zeroValue28
  t25 := Tryz.underlying144
  a25 := Tryz.isAgg144
  z25 := Tryz.sizeOf144
  v25 := Tryz.zeroValue144 }
end Go.Proofs
end
