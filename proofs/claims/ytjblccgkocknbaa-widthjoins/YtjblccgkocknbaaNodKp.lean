/- What a call may have changed: new blocks, and one block more, that it was handed to write into. -/
import Derived.Test.YtjblccgkocknbaaNodFew
set_option linter.unusedVariables false
set_option linter.unusedSimpArgs false
namespace Go.Proofs.Ytjblccgkocknbaa.nod
open Go.RowKit
open Go.Proofs.Ytjblccgkocknbaa.rng (R RV ret_int ret_bool below_drewN info_parts own_below')

/-- A block of its own. -/
def Bk (w : World) (g : Nat) (cs : Array Value) (t : TypeId) : Prop := w.heap[g]? = some (.cells cs t (0, 0))
theorem Bk.new (w : World) (cs : Array Value) (t : TypeId) : Bk (w.alloc (.cells cs t)) w.heap.size cs t := by
  show (w.heap.push _)[w.heap.size]? = _; simp
theorem Bk.lt {w : World} {g : Nat} {cs : Array Value} {t : TypeId} (h : Bk w g cs t) : g < w.heap.size := (Array.getElem?_eq_some_iff.1 h).1
theorem Bk.keep {B : Nat} {w w' : World} {g : Nat} {cs : Array Value} {t : TypeId} (h : Bk w g cs t) (hb : Below B w w') (hg : g < B) : Bk w' g cs t := (hb.block g hg).trans h
theorem Bk.on {w w' : World} {g : Nat} {cs : Array Value} {t : TypeId} (h : Bk w g cs t) (hb : Below w.heap.size w w') : Bk w' g cs t := h.keep hb h.lt
theorem Bk.past {w : World} {g : Nat} {cs : Array Value} {t : TypeId} (h : Bk w g cs t) (o : Obj) : Bk (w.alloc o) g cs t := h.on ((Below.refl _ w).alloc (Nat.le_refl _) o)
theorem Bk.cell {w : World} {g : Nat} {cs : Array Value} {t : TypeId} (h : Bk w g cs t) (i : Nat) {u : Value} (hi : cs[i]? = some u) : w.cell? ⟨g, i, none⟩ = some u := by
  unfold Bk at h
  simp [World.cell?, h, hi]
theorem Bk.frozen {w : World} {g : Nat} {cs : Array Value} {t : TypeId} (h : Bk w g cs t) (i : Nat) : w.frozen? ⟨g, i, none⟩ = false := by
  unfold Bk at h
  simp [World.frozen?, h]
theorem Bk.set {w : World} {g : Nat} {cs : Array Value} {t : TypeId} (h : Bk w g cs t) (i : Nat) (u : Value) : Bk (w.setCell ⟨g, i, none⟩ u) g (cs.setIfInBounds i u) t := by
  unfold Bk at *
  simp [World.setCell, Array.getElem?_modify, h]
theorem Bk.set2 {w : World} {g : Nat} {a b : Value} {t : TypeId} (h : Bk w g #[a, b] t) (x y : Value) : Bk ((w.setCell ⟨g, 0, none⟩ x).setCell ⟨g, 1, none⟩ y) g #[x, y] t := by
  have := (h.set 0 x).set 1 y
  simpa using this
theorem Bk.apart {w : World} {g k i : Nat} {cs : Array Value} {t : TypeId} (h : Bk w g cs t) (hk : g ≠ k) (u : Value) : Bk (w.setCell ⟨k, i, none⟩ u) g cs t :=
  (Below.heap_setCell _ _ _ _ hk).trans h
theorem below2 (w : World) (o1 o2 : Obj) : Below w.heap.size w ((w.alloc o1).alloc o2) := ((Below.refl _ w).alloc (Nat.le_refl _) _).alloc (by simp) _
theorem bk2 {w : World} {t2 : TypeId} {cs : Array Value} {o1 : Obj} : Bk ((w.alloc o1).alloc (.cells cs t2)) (w.heap.size + 1) cs t2 := by
  have := Bk.new (w.alloc o1) cs t2
  simpa using this
theorem below_less {A B : Nat} {w w' : World} (h : Below A w w') (hB : B ≤ A) : Below B w w' := ⟨h.os, h.tape, h.output, h.size, fun k hk => h.block k (Nat.lt_of_lt_of_le hk hB)⟩

/-- From w to w' only the block E, and new blocks, have changed. -/
structure Kp (E : Option Nat) (w w' : World) : Prop where
  os : w'.os = w.os
  tape : w'.tape = w.tape
  output : w'.output = w.output
  size : w.heap.size ≤ w'.heap.size
  block : ∀ k, k < w.heap.size → some k ≠ E → w'.heap[k]? = w.heap[k]?
theorem Kp.refl (E : Option Nat) (w : World) : Kp E w w := ⟨rfl, rfl, rfl, Nat.le_refl _, fun _ _ _ => rfl⟩
theorem Kp.trans {E : Option Nat} {a b c : World} (h : Kp E a b) (k : Kp E b c) : Kp E a c :=
  ⟨k.os.trans h.os, k.tape.trans h.tape, k.output.trans h.output, Nat.le_trans h.size k.size, fun i hi hE => (k.block i (Nat.lt_of_lt_of_le hi h.size) hE).trans (h.block i hi hE)⟩
theorem Kp.then {E : Option Nat} {a b c : World} (h : Kp E a b) (k : Below a.heap.size b c) : Kp E a c :=
  ⟨k.os.trans h.os, k.tape.trans h.tape, k.output.trans h.output, Nat.le_trans h.size k.size, fun i hi hE => (k.block i hi).trans (h.block i hi hE)⟩
theorem Kp.of_below {E : Option Nat} {w w' : World} (h : Below w.heap.size w w') : Kp E w w' := (Kp.refl E w).then h
theorem Kp.alloc {E : Option Nat} {a b : World} (h : Kp E a b) (o : Obj) : Kp E a (b.alloc o) := h.then ((Below.refl _ b).alloc h.size o)
theorem Kp.below {E : Option Nat} {B : Nat} {w w' : World} (h : Kp E w w') (hB : B ≤ w.heap.size) (hE : ∀ x, E = some x → B ≤ x) : Below B w w' :=
  ⟨h.os, h.tape, h.output, h.size, fun k hk => h.block k (by omega) (fun e => by have := hE k e.symm; omega)⟩
theorem Kp.none {w w' : World} (h : Kp none w w') : Below w.heap.size w w' := h.below (Nat.le_refl _) (fun x e => by cases e)
theorem Kp.setCell {E : Option Nat} {a b : World} {p : Addr} (h : Kp E a b) (hp : a.heap.size ≤ p.block ∨ E = some p.block) (u : Value) : Kp E a (b.setCell p u) := by
  refine ⟨h.os, h.tape, h.output, by simpa [World.setCell] using h.size, fun k hk hE => ?_⟩
  refine Eq.trans (Below.heap_setCell _ _ _ _ ?_) (h.block k hk hE)
  rintro rfl
  rcases hp with hp | hp
  · omega
  · exact hE hp.symm
theorem Bk.kp {E : Option Nat} {w w' : World} {g : Nat} {cs : Array Value} {t : TypeId} (h : Bk w g cs t) (k : Kp E w w') (hE : some g ≠ E) : Bk w' g cs t := (k.block g h.lt hE).trans h
theorem own_kp {E : Option Nat} {w w' : World} {B e size n : Nat} {v : Value} {xs : List Value} (h : w.ownsRow B e size v n xs) (k : Kp E w w') (hE : ∀ x, E = some x → x < B) : w'.ownsRow B e size v n xs := by
  refine ⟨h.1, ?_⟩
  rcases h.2 with hn | ⟨g, cap, cur, rfl, hg, hgg, rest⟩
  · exact .inl hn
  · exact .inr ⟨g, cap, cur, rfl, hg, by rw [k.block g (Array.getElem?_eq_some_iff.1 hgg).1 (fun e => by have := hE g e.symm; omega)]; exact hgg, rest⟩

/-- The block E, if there is one, holds the number s. -/
def St (E : Option Nat) (s : Value) (w : World) : Prop := ∀ x, E = some x → w.cell? ⟨x, 0, none⟩ = some s ∧ w.frozen? ⟨x, 0, none⟩ = false
theorem St.keep {E : Option Nat} {s : Value} {w w' : World} (h : St E s w) (hb : Below w.heap.size w w') : St E s w' := fun x e => by
  obtain ⟨h1, h2⟩ := h x e
  have hl := World.block_lt_of_cell? w _ h1
  exact ⟨(hb.cell (p := ⟨x, 0, none⟩) hl).trans h1, (World.frozen?_of_block (a := ⟨x, 0, none⟩) (hb.block x hl)).trans h2⟩
theorem St.alloc {E : Option Nat} {s : Value} {w : World} (h : St E s w) (o : Obj) : St E s (w.alloc o) := h.keep ((Below.refl _ w).alloc (Nat.le_refl _) o)
theorem St.none (s : Value) (w : World) : St none s w := fun x e => by cases e
end Go.Proofs.Ytjblccgkocknbaa.nod
