/- Lists of entries in memory: rows of the call's own, and rows that are read; what a call may have changed of one row. -/
import Derived.Test.YtmglljceklmngaaRngMem
import Derived.Test.YtmglljceklmngaaTriPure
set_option linter.unusedVariables false
set_option linter.unusedSimpArgs false
namespace Go.Proofs.Ytmglljceklmngaa.tri
open Go.RowKit
open Go.Proofs.Ytmglljceklmngaa.rng (ret_int ret_bool below_drewN info_parts own_below')

theorem infoEntry : (Try.prog.info? 27).map (fun i => (i.zero, i.size, i.bytes)) = some (some (.agg #[.int .i64 0, .int .i64 0, .int .i64 0]), 3, 24) := by kernel_rfl

theorem getX {α : Type} {l : List α} {n k : Nat} (h : l.length = n) (hk : k < n) : ∃ x, l[k]? = some x := by subst h; exact ⟨_, List.getElem?_eq_getElem hk⟩
theorem get3 {l : List E} {n k : Nat} (h : l.length = n) (hk : k < n) : ∃ x y z, l[k]? = some (x, y, z) := by subst h; exact ⟨_, _, _, List.getElem?_eq_getElem hk⟩
theorem dropX {α : Type} {l : List α} {k : Nat} {x : α} (h : l[k]? = some x) : l.drop k = x :: l.drop (k + 1) := by
  obtain ⟨hk, e⟩ := List.getElem?_eq_some_iff.1 h
  rw [List.drop_eq_getElem_cons hk, e]
theorem takeX {α : Type} {l : List α} {k : Nat} {x : α} (h : l[k]? = some x) : l.take (k + 1) = l.take k ++ [x] := by
  obtain ⟨hk, e⟩ := List.getElem?_eq_some_iff.1 h
  rw [List.take_succ_eq_append_getElem hk, e]
theorem snocX {α : Type} {i j : List α} {p q : α} (h : i ++ [p] = j ++ [q]) : i = j ∧ p = q := by
  have := List.append_inj' h rfl; simpa using this

/-- The cells of entries. -/
def flat (l : List E) : List Value := l.flatMap fun p => [.int .i64 p.1, .int .i64 p.2.1, .int .i64 p.2.2]
theorem flat_cons (p : E) (l : List E) : flat (p :: l) = .int .i64 p.1 :: .int .i64 p.2.1 :: .int .i64 p.2.2 :: flat l := rfl
theorem flat_append (l r : List E) : flat (l ++ r) = flat l ++ flat r := by simp [flat]
theorem flat_three (x y z : Int) : flat [(x, y, z)] = [.int .i64 x, .int .i64 y, .int .i64 z] := rfl
theorem flat_length (l : List E) : (flat l).length = l.length * 3 := by
  induction l with
  | nil => rfl
  | cons x l ih => rw [flat_cons]; simp; omega
theorem flat_get : ∀ (l : List E) (i : Nat) (p : E), l[i]? = some p → (flat l)[i * 3]? = some (.int .i64 p.1) ∧ (flat l)[i * 3 + 1]? = some (.int .i64 p.2.1) ∧ (flat l)[i * 3 + 2]? = some (.int .i64 p.2.2)
  | [], i, p, h => by simp at h
  | x :: l, 0, p, h => by simp at h; subst h; exact ⟨rfl, rfl, rfl⟩
  | x :: l, i + 1, p, h => by
    have := flat_get l i p (by simpa using h)
    rw [flat_cons, show (i + 1) * 3 = i * 3 + 1 + 1 + 1 from by omega]
    simpa using this
theorem flat_back : ∀ (l : List E) (j : Nat) (u : Value), (flat l)[j]? = some u → ∃ p, l[j / 3]? = some p ∧ u = (if j % 3 = 0 then .int .i64 p.1 else if j % 3 = 1 then .int .i64 p.2.1 else .int .i64 p.2.2)
  | [], j, u, h => by simp [flat] at h
  | x :: l, 0, u, h => ⟨x, rfl, by rw [flat_cons] at h; simpa using h.symm⟩
  | x :: l, 1, u, h => ⟨x, rfl, by rw [flat_cons] at h; simpa using h.symm⟩
  | x :: l, 2, u, h => ⟨x, rfl, by rw [flat_cons] at h; simpa using h.symm⟩
  | x :: l, j + 3, u, h => by
    rw [flat_cons] at h
    obtain ⟨p, h1, h2⟩ := flat_back l j u (by simpa using h)
    refine ⟨p, ?_, ?_⟩
    · rw [show (j + 3) / 3 = j / 3 + 1 by omega]; simpa using h1
    · rw [show (j + 3) % 3 = j % 3 by omega]; exact h2
theorem flat_one (l : List E) : ∀ u ∈ flat l, u.oneCell' = true := by
  intro u hu
  unfold flat at hu
  obtain ⟨q, hq, hu⟩ := List.mem_flatMap.1 hu
  simp only [List.mem_cons, List.mem_nil_iff, or_false] at hu
  rcases hu with rfl | rfl | rfl <;> rfl

/-- The entries l lie in block b from cell off on. -/
def EAt (w : World) (b off : Nat) (l : List E) : Prop := ∀ i p, l[i]? = some p → w.cell? ⟨b, off + i * 3, none⟩ = some (.int .i64 p.1) ∧ w.cell? ⟨b, off + i * 3 + 1, none⟩ = some (.int .i64 p.2.1) ∧ w.cell? ⟨b, off + i * 3 + 2, none⟩ = some (.int .i64 p.2.2)
/-- The entries l can be read from the address on. -/
def EV (w : World) (ao : Option Addr) (l : List E) : Prop := l = [] ∨ ∃ b off, ao = some ⟨b, off, none⟩ ∧ EAt w b off l
theorem EAt.below {w w' : World} {b off : Nat} {l : List E} (h : EAt w b off l) (hb : Below w.heap.size w w') : EAt w' b off l := fun i p hi => by
  obtain ⟨h1, h2, h3⟩ := h i p hi
  exact ⟨(hb.cell (World.block_lt_of_cell? w _ h1)).trans h1, (hb.cell (World.block_lt_of_cell? w _ h2)).trans h2, (hb.cell (World.block_lt_of_cell? w _ h3)).trans h3⟩
theorem EAt.drop {w : World} {b off : Nat} {l : List E} (h : EAt w b off l) (k : Nat) : EAt w b (off + k * 3) (l.drop k) := fun i p hi => by
  rw [List.getElem?_drop] at hi
  have := h (k + i) p hi
  rw [show off + (k + i) * 3 = off + k * 3 + i * 3 by omega] at this
  exact this
theorem EAt.take {w : World} {b off : Nat} {l : List E} (h : EAt w b off l) (k : Nat) : EAt w b off (l.take k) := fun i p hi => h i p (by rw [List.getElem?_take] at hi; split at hi; exact hi; cases hi)
theorem EAt.news {w : World} {b off : Nat} {l : List E} (h : EAt w b off l) : ∀ (j : Nat) u, (flat l)[j]? = some u → w.cell? ((⟨b, off, none⟩ : Addr).add j) = some u := fun j u hj => by
  obtain ⟨p, h1, h2⟩ := flat_back l j u hj
  obtain ⟨c1, c2, c3⟩ := h _ p h1
  rw [Addr.add_lit]
  rcases (show j % 3 = 0 ∨ j % 3 = 1 ∨ j % 3 = 2 by omega) with h | h | h
  · rw [h] at h2; rw [h2, show off + j = off + j / 3 * 3 by omega]; exact c1
  · rw [h] at h2; rw [h2, show off + j = off + j / 3 * 3 + 1 by omega]; exact c2
  · rw [h] at h2; rw [h2, show off + j = off + j / 3 * 3 + 2 by omega]; exact c3
theorem EV.nil (w : World) (ao : Option Addr) : EV w ao [] := .inl rfl
theorem EV.below {w w' : World} {ao : Option Addr} {l : List E} (h : EV w ao l) (hb : Below w.heap.size w w') : EV w' ao l := by
  rcases h with h | ⟨b, off, rfl, h⟩
  · exact .inl h
  · exact .inr ⟨b, off, rfl, h.below hb⟩
theorem EV.some {w : World} {ao : Option Addr} {l : List E} (h : EV w ao l) (h0 : 0 < l.length) : ∃ b off, ao = some ⟨b, off, none⟩ ∧ EAt w b off l := by
  rcases h with rfl | h
  · simp at h0
  · exact h
theorem EV.take {w : World} {ao : Option Addr} {l : List E} (h : EV w ao l) (n : Nat) : EV w ao (l.take n) := by
  rcases h with rfl | ⟨b, off, rfl, h⟩
  · exact .inl (by simp)
  · exact .inr ⟨b, off, rfl, h.take n⟩
theorem ev_nil {w : World} {l : List E} (h : EV w none l) : l = [] := by
  rcases h with h | ⟨b, off, h, _⟩
  · exact h
  · cases h
theorem ev_news {w : World} {x : Addr} {l : List E} (h : EV w (some x) l) : ∀ (j : Nat) u, (flat l)[j]? = Option.some u → w.cell? (x.add j) = Option.some u := by
  rcases h with rfl | ⟨b, off, e, h⟩
  · intro j u hj; simp [flat] at hj
  · cases e; exact h.news

/-- v is a row of the call's own, of entries l. -/
def Own (w : World) (base : Nat) (v : Value) (l : List E) : Prop := w.ownsRow base 27 3 v l.length (flat l)
theorem Own.below {w w' : World} {B : Nat} {v : Value} {l : List E} (h : Own w B v l) (hb : Below w.heap.size w w') : Own w' B v l := own_below' h hb
theorem Own.view {w : World} {B : Nat} {v : Value} {l : List E} (h : Own w B v l) : ∃ ao cap, v = .slice ao l.length cap ∧ EV w ao l ∧ l.length ≤ cap ∧ cap ≤ maxLen ∧ (ao = none → cap = 0) := by
  rcases h.2 with ⟨rfl, h0⟩ | ⟨g, cap, cur, rfl, hg, hgg, hc, hm, hs, ht⟩
  · exact ⟨none, 0, by rw [h0], .inl (List.eq_nil_of_length_eq_zero h0), by omega, by unfold maxLen; omega, fun _ => rfl⟩
  · refine ⟨_, cap, rfl, .inr ⟨g, 0, rfl, fun i p hi => ?_⟩, hc, hm, fun e => by cases e⟩
    obtain ⟨e1, e2, e3⟩ := flat_get l i p hi
    have hil : i < l.length := (List.getElem?_eq_some_iff.1 hi).1
    have h' : w.ownsRow B 27 3 (.slice (some ⟨g, 0, none⟩) l.length cap) l.length (flat l) := h
    rw [Nat.zero_add]
    exact ⟨(h'.cellAt _ (by omega)).trans e1, (h'.cellAt _ (by omega)).trans e2, (h'.cellAt _ (by omega)).trans e3⟩
theorem Own.at {w : World} {B g c n : Nat} {l : List E} (h : Own w B (.slice (some ⟨g, 0, none⟩) n c) l) : EAt w g 0 l ∧ B ≤ g ∧ g < w.heap.size ∧ ∀ i, w.frozen? ⟨g, i, none⟩ = false := by
  rcases h.2 with ⟨h0, _⟩ | ⟨g', cap', cur, hv, hg, hgg, hc, hm, hs, ht⟩
  · cases h0
  cases hv
  have h' : w.ownsRow B 27 3 (.slice (some ⟨g, 0, none⟩) l.length c) l.length (flat l) := h
  refine ⟨fun i p hi => ?_, hg, (Array.getElem?_eq_some_iff.1 hgg).1, fun i => h'.frozenAt i⟩
  obtain ⟨e1, e2, e3⟩ := flat_get l i p hi
  have hil : i < l.length := (List.getElem?_eq_some_iff.1 hi).1
  rw [Nat.zero_add]
  exact ⟨(h'.cellAt _ (by omega)).trans e1, (h'.cellAt _ (by omega)).trans e2, (h'.cellAt _ (by omega)).trans e3⟩

/-- From w to w' only cells lo to hi of block g, and new blocks, have changed. -/
structure Mut (w w' : World) (g lo hi : Nat) : Prop where
  os : w'.os = w.os
  tape : w'.tape = w.tape
  output : w'.output = w.output
  size : w.heap.size ≤ w'.heap.size
  block : ∀ k, k < w.heap.size → k ≠ g → w'.heap[k]? = w.heap[k]?
  cell : ∀ i, i < lo ∨ hi ≤ i → w'.cell? ⟨g, i, none⟩ = w.cell? ⟨g, i, none⟩
  frozen : ∀ i, w'.frozen? ⟨g, i, none⟩ = w.frozen? ⟨g, i, none⟩
theorem Mut.refl (w : World) (g lo hi : Nat) : Mut w w g lo hi := ⟨rfl, rfl, rfl, Nat.le_refl _, fun _ _ _ => rfl, fun _ _ => rfl, fun _ => rfl⟩
theorem Mut.trans {a b c : World} {g lo hi : Nat} (h : Mut a b g lo hi) (k : Mut b c g lo hi) : Mut a c g lo hi :=
  ⟨k.os.trans h.os, k.tape.trans h.tape, k.output.trans h.output, Nat.le_trans h.size k.size, fun i hi hg => (k.block i (Nat.lt_of_lt_of_le hi h.size) hg).trans (h.block i hi hg), fun i hi => (k.cell i hi).trans (h.cell i hi), fun i => (k.frozen i).trans (h.frozen i)⟩
theorem Mut.wide {a b : World} {g lo hi lo' hi' : Nat} (h : Mut a b g lo hi) (h1 : lo' ≤ lo) (h2 : hi ≤ hi') : Mut a b g lo' hi' :=
  ⟨h.os, h.tape, h.output, h.size, h.block, fun i hi => h.cell i (by omega), h.frozen⟩
theorem Mut.of_below {w w' : World} {g lo hi : Nat} (h : Below w.heap.size w w') (hg : g < w.heap.size) : Mut w w' g lo hi :=
  ⟨h.os, h.tape, h.output, h.size, fun k hk _ => h.block k hk, fun i _ => World.cell?_of_block (h.block g hg), fun i => World.frozen?_of_block (h.block g hg)⟩
theorem Mut.then {a b c : World} {g lo hi : Nat} (h : Mut a b g lo hi) (hg : g < a.heap.size) (k : Below a.heap.size b c) : Mut a c g lo hi :=
  ⟨k.os.trans h.os, k.tape.trans h.tape, k.output.trans h.output, Nat.le_trans h.size k.size, fun i hi hg => (k.block i hi).trans (h.block i hi hg), fun i hi => (World.cell?_of_block (k.block g hg)).trans (h.cell i hi), fun i => (World.frozen?_of_block (k.block g hg)).trans (h.frozen i)⟩
theorem Mut.alloc {a b : World} {g lo hi : Nat} (h : Mut a b g lo hi) (hg : g < a.heap.size) (o : Obj) : Mut a (b.alloc o) g lo hi :=
  h.then hg ((Below.refl _ _).alloc h.size o)
theorem Mut.drew {a b : World} {g lo hi : Nat} (h : Mut a b g lo hi) : Mut a b.drew g lo hi := ⟨h.os, h.tape, h.output, h.size, h.block, h.cell, h.frozen⟩
theorem Mut.drewN {a b : World} {g lo hi : Nat} (h : Mut a b g lo hi) (q : Nat) : Mut a (b.drewN q) g lo hi := ⟨h.os, h.tape, h.output, h.size, h.block, h.cell, h.frozen⟩
theorem Mut.grown {a b c : World} {g lo hi : Nat} {row : Option Nat} (h : Mut a b g lo hi) (hg : g < a.heap.size) (k : b.grownBy c row) (hr : ∀ j, row = some j → a.heap.size ≤ j) : Mut a c g lo hi :=
  h.then hg ((Below.refl _ b).grown k h.size hr)
theorem cell_set_ne (w : World) (b i j : Nat) (u : Value) (h : i ≠ j) : (w.setCell ⟨b, i, none⟩ u).cell? ⟨b, j, none⟩ = w.cell? ⟨b, j, none⟩ := by
  simp only [World.cell?, World.setCell, Array.getElem?_modify, if_true]
  cases hb : w.heap[b]? with
  | none => simp
  | some o =>
    cases o with
    | cells c t f => simp [Array.getElem?_setIfInBounds, h]
    | _ => simp
theorem frozen_set (w : World) (b i j : Nat) (u : Value) : (w.setCell ⟨b, i, none⟩ u).frozen? ⟨b, j, none⟩ = w.frozen? ⟨b, j, none⟩ := by
  simp only [World.frozen?, World.setCell, Array.getElem?_modify, if_true]
  cases hb : w.heap[b]? with
  | none => simp
  | some o =>
    cases o with
    | cells c t f => simp
    | _ => simp
theorem cell_set_eq (w : World) (b i : Nat) (u v : Value) (h : w.cell? ⟨b, i, none⟩ = some v) : (w.setCell ⟨b, i, none⟩ u).cell? ⟨b, i, none⟩ = some u := by
  simp only [World.cell?, World.setCell, Array.getElem?_modify, if_true] at *
  cases hb : w.heap[b]? with
  | none => rw [hb] at h; cases h
  | some o =>
    rw [hb] at h
    cases o with
    | cells c t f =>
      simp at h ⊢
      obtain ⟨h1, _⟩ := Array.getElem?_eq_some_iff.1 h
      rw [Array.getElem?_setIfInBounds, if_pos rfl, if_pos h1]
    | _ => simp at h
theorem Mut.setCell {a b : World} {g lo hi i : Nat} (h : Mut a b g lo hi) (h1 : lo ≤ i) (h2 : i < hi) (u : Value) : Mut a (b.setCell ⟨g, i, none⟩ u) g lo hi :=
  h.trans ⟨rfl, rfl, rfl, by simp [World.setCell], fun k _ hk => Below.heap_setCell _ _ _ _ hk, fun j hj => cell_set_ne _ _ _ _ _ (by omega), fun j => frozen_set _ _ _ _ _⟩
theorem Mut.below {w w' : World} {g lo hi B : Nat} (h : Mut w w' g lo hi) (hB : B ≤ w.heap.size) (hg : B ≤ g) : Below B w w' :=
  ⟨h.os, h.tape, h.output, h.size, fun k hk => h.block k (by omega) (by omega)⟩
/-- Entries elsewhere stay. -/
theorem EAt.mut {w w' : World} {g lo hi b off : Nat} {l : List E} (h : EAt w b off l) (m : Mut w w' g lo hi) (hd : b ≠ g ∨ off + l.length * 3 ≤ lo ∨ hi ≤ off) : EAt w' b off l := fun i p hp => by
  obtain ⟨h1, h2, h3⟩ := h i p hp
  have hil : i < l.length := (List.getElem?_eq_some_iff.1 hp).1
  have lt : b < w.heap.size := World.block_lt_of_cell? w _ h1
  by_cases e : b = g
  · subst e
    refine ⟨(m.cell _ (by omega)).trans h1, (m.cell _ (by omega)).trans h2, (m.cell _ (by omega)).trans h3⟩
  · have hb := m.block b lt e
    exact ⟨(World.cell?_of_block (a := ⟨b, _, none⟩) hb).trans h1, (World.cell?_of_block (a := ⟨b, _, none⟩) hb).trans h2, (World.cell?_of_block (a := ⟨b, _, none⟩) hb).trans h3⟩
theorem frozen_mut {w w' : World} {g lo hi b : Nat} (m : Mut w w' g lo hi) (hb : b < w.heap.size) (h : ∀ i, w.frozen? ⟨b, i, none⟩ = false) : ∀ i, w'.frozen? ⟨b, i, none⟩ = false := fun i => by
  by_cases e : b = g
  · subst e; rw [m.frozen i]; exact h i
  · rw [World.frozen?_of_block (a := ⟨b, i, none⟩) (m.block b hb e)]; exact h i
/-- The first entry's Lo is set. -/
theorem EAt.setLo {w : World} {b off : Nat} {x y z x' : Int} {l : List E} (h : EAt w b off ((x, y, z) :: l)) : EAt (w.setCell ⟨b, off, none⟩ (.int .i64 x')) b off ((x', y, z) :: l) := fun i p hp => by
  match i, hp with
  | 0, hp =>
    obtain ⟨h1, h2, h3⟩ := h 0 (x, y, z) rfl
    simp at hp; subst hp
    simp only [Nat.zero_mul, Nat.add_zero] at *
    exact ⟨cell_set_eq _ _ _ _ _ h1, (cell_set_ne _ _ _ _ _ (by omega)).trans h2, (cell_set_ne _ _ _ _ _ (by omega)).trans h3⟩
  | i + 1, hp =>
    obtain ⟨h1, h2, h3⟩ := h (i + 1) p (by simpa using hp)
    exact ⟨(cell_set_ne _ _ _ _ _ (by omega)).trans h1, (cell_set_ne _ _ _ _ _ (by omega)).trans h2, (cell_set_ne _ _ _ _ _ (by omega)).trans h3⟩

theorem one_new (w : World) (x y z : Value) (t : TypeId) : ∀ (j : Nat) (u : Value), [x, y, z][j]? = some u → (w.alloc (Obj.cells #[x, y, z] t)).cell? ((⟨w.heap.size, 0, none⟩ : Addr).add j) = some u := by
  intro j u hj
  match j, hj with
  | 0, hj => simp at hj; subst hj; simp [Addr.add]
  | 1, hj => simp at hj; subst hj; simp [Addr.add]
  | 2, hj => simp at hj; subst hj; simp [Addr.add]
  | k + 3, hj => simp at hj
theorem two_new (w : World) (o : Obj) (x y z : Value) (t : TypeId) : ∀ (j : Nat) (u : Value), [x, y, z][j]? = some u → ((w.alloc o).alloc (Obj.cells #[x, y, z] t)).cell? ((⟨w.heap.size + 1, 0, none⟩ : Addr).add j) = some u := by
  have := one_new (w.alloc o) x y z t
  simpa using this
end Go.Proofs.Ytmglljceklmngaa.tri
