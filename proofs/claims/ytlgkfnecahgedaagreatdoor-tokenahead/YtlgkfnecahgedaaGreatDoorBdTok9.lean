/- Texts that the proof leans on, one behind the other. -/
import Derived.Test.YtlgkfnecahgedaaGreatDoorBdTok8
import Derived.Test.YtlgkfnecahgedaaGreatDoorBdUtf2

section
/- The document's scanner in memory; what is left of a pattern; which text stands there. -/
set_option linter.unusedVariables false
set_option linter.unusedSimpArgs false
namespace Go.Proofs.YtlgkfnecahgedaaGreatDoor.tok
open Go.RowKit
open lin (BA Turns)

/-- In block rb lies the document's scanner: n bytes f from ao on, how far it is, how many classes are open, the fault so far. -/
structure Rs (w : World) (rb : Nat) (ao : Option Addr) (n cap : Nat) (f : Nat → Int) (a k : Nat) (c p : Int) : Prop where
  blk : w.heap[rb]? = some (.cells #[.slice ao n cap, .int .i64 a, .int .i64 k, .int .i64 c, .int .i64 p] 47 (0, 0))
  byt : ∃ b off, ao = some ⟨b, off, none⟩ ∧ b ≠ rb ∧ ∀ i, i < n → w.cell? ⟨b, off + i, none⟩ = some (.int .u8 (f i))
  ff : ∀ i, 0 ≤ f i ∧ f i ≤ 255
  pos : 0 < n
  nn : n ≤ 2000
  cc : n ≤ cap
  cm : cap ≤ 9223372036854775807
  aa : a ≤ n
  kk : k ≤ 1000000
theorem Rs.cells {w : World} {rb : Nat} {ao : Option Addr} {n cap : Nat} {f : Nat → Int} {a k : Nat} {c p : Int} (h : Rs w rb ao n cap f a k c p) :
    w.cell? ⟨rb, 0, none⟩ = some (.slice ao n cap) ∧ w.cell? ⟨rb, 1, none⟩ = some (.int .i64 a) ∧ w.cell? ⟨rb, 2, none⟩ = some (.int .i64 k) ∧ w.cell? ⟨rb, 3, none⟩ = some (.int .i64 c) ∧ w.cell? ⟨rb, 4, none⟩ = some (.int .i64 p) ∧
    w.frozen? ⟨rb, 0, none⟩ = false ∧ w.frozen? ⟨rb, 1, none⟩ = false ∧ w.frozen? ⟨rb, 2, none⟩ = false ∧ w.frozen? ⟨rb, 3, none⟩ = false ∧ w.frozen? ⟨rb, 4, none⟩ = false := by
  simp [World.cell?, World.frozen?, h.blk]
theorem Rs.lt {w : World} {rb : Nat} {ao : Option Addr} {n cap : Nat} {f : Nat → Int} {a k : Nat} {c p : Int} (h : Rs w rb ao n cap f a k c p) : rb < w.heap.size := (Array.getElem?_eq_some_iff.1 h.blk).1
theorem Rs.turns {D : Nat → Prop} {w' : World} {w : World} {rb : Nat} {ao : Option Addr} {n cap : Nat} {f : Nat → Int} {a k : Nat} {c p : Int} (h : Rs w rb ao n cap f a k c p) (t : Turns D w w') (h1 : ¬ D rb) (h2 : ∀ b off, ao = some ⟨b, off, none⟩ → ¬ D b) : Rs w' rb ao n cap f a k c p := by
  obtain ⟨b, off, e, hne, hc⟩ := h.byt
  exact ⟨(t.block rb h.lt h1).trans h.blk, ⟨b, off, e, hne, fun i hi => nam.turns_cell t (hc i hi) (h2 b off e)⟩, h.ff, h.pos, h.nn, h.cc, h.cm, h.aa, h.kk⟩
theorem Rs.below {w' : World} {w : World} {rb : Nat} {ao : Option Addr} {n cap : Nat} {f : Nat → Int} {a k : Nat} {c p : Int} (h : Rs w rb ao n cap f a k c p) (hb : Below w.heap.size w w') : Rs w' rb ao n cap f a k c p := h.turns (D := fun _ => False) (.of_below hb) id (fun _ _ _ => id)
theorem Rs.alloc {w : World} {rb : Nat} {ao : Option Addr} {n cap : Nat} {f : Nat → Int} {a k : Nat} {c p : Int} (h : Rs w rb ao n cap f a k c p) (o : Obj) : Rs (w.alloc o) rb ao n cap f a k c p := h.below ((Below.refl _ _).alloc (Nat.le_refl _) o)
theorem Rs.drewN {w : World} {rb : Nat} {ao : Option Addr} {n cap : Nat} {f : Nat → Int} {a k : Nat} {c p : Int} (h : Rs w rb ao n cap f a k c p) (q : Nat) : Rs (w.drewN q) rb ao n cap f a k c p := h.below ⟨rfl, rfl, rfl, Nat.le_refl _, fun _ _ => rfl⟩
theorem Rs.drew {w : World} {rb : Nat} {ao : Option Addr} {n cap : Nat} {f : Nat → Int} {a k : Nat} {c p : Int} (h : Rs w rb ao n cap f a k c p) : Rs w.drew rb ao n cap f a k c p := h.below ⟨rfl, rfl, rfl, Nat.le_refl _, fun _ _ => rfl⟩
theorem Rs.bytes_set {w : World} {rb : Nat} {ao : Option Addr} {n cap : Nat} {f : Nat → Int} {a k : Nat} {c p : Int} (h : Rs w rb ao n cap f a k c p) (i : Nat) (v : Value) : ∃ b off, ao = some ⟨b, off, none⟩ ∧ b ≠ rb ∧ ∀ j, j < n → (w.setCell ⟨rb, i, none⟩ v).cell? ⟨b, off + j, none⟩ = some (.int .u8 (f j)) := by
  obtain ⟨b, off, e, hne, hc⟩ := h.byt
  exact ⟨b, off, e, hne, fun j hj => (World.cell?_setCell_other _ _ _ _ (by intro hh; exact hne (by simpa using (congrArg Addr.block hh).symm))).trans (hc j hj)⟩
theorem Rs.put1 {w : World} {rb : Nat} {ao : Option Addr} {n cap : Nat} {f : Nat → Int} {a k : Nat} {c p : Int} (h : Rs w rb ao n cap f a k c p) {x : Int} {a' : Nat} (hx : x = a') (ha : a' ≤ n) : Rs (w.setCell ⟨rb, 1, none⟩ (.int .i64 x)) rb ao n cap f a' k c p := by
  subst hx
  exact ⟨heap_setCell_same w rb 1 _ _ _ h.blk, h.bytes_set 1 _, h.ff, h.pos, h.nn, h.cc, h.cm, ha, h.kk⟩
theorem Rs.put2 {w : World} {rb : Nat} {ao : Option Addr} {n cap : Nat} {f : Nat → Int} {a k : Nat} {c p : Int} (h : Rs w rb ao n cap f a k c p) {x : Int} {k' : Nat} (hx : x = k') (hk : k' ≤ 1000000) : Rs (w.setCell ⟨rb, 2, none⟩ (.int .i64 x)) rb ao n cap f a k' c p := by
  subst hx
  exact ⟨heap_setCell_same w rb 2 _ _ _ h.blk, h.bytes_set 2 _, h.ff, h.pos, h.nn, h.cc, h.cm, h.aa, hk⟩
theorem Rs.put3 {w : World} {rb : Nat} {ao : Option Addr} {n cap : Nat} {f : Nat → Int} {a k : Nat} {c p : Int} (h : Rs w rb ao n cap f a k c p) (x : Int) : Rs (w.setCell ⟨rb, 3, none⟩ (.int .i64 x)) rb ao n cap f a k x p :=
  ⟨heap_setCell_same w rb 3 _ _ _ h.blk, h.bytes_set 3 _, h.ff, h.pos, h.nn, h.cc, h.cm, h.aa, h.kk⟩
theorem Rs.put4 {w : World} {rb : Nat} {ao : Option Addr} {n cap : Nat} {f : Nat → Int} {a k : Nat} {c p : Int} (h : Rs w rb ao n cap f a k c p) (x : Int) : Rs (w.setCell ⟨rb, 4, none⟩ (.int .i64 x)) rb ao n cap f a k c x :=
  ⟨heap_setCell_same w rb 4 _ _ _ h.blk, h.bytes_set 4 _, h.ff, h.pos, h.nn, h.cc, h.cm, h.aa, h.kk⟩
theorem Rs.bytes_lt {w : World} {rb : Nat} {ao : Option Addr} {n cap : Nat} {f : Nat → Int} {a k : Nat} {c p : Int} (h : Rs w rb ao n cap f a k c p) {b off : Nat} (e : ao = some ⟨b, off, none⟩) : b < w.heap.size := by
  obtain ⟨b', off', e', hne, hc⟩ := h.byt
  rw [e] at e'
  cases e'
  exact World.block_lt_of_cell? w _ (hc 0 h.pos)
theorem Rs.set {v : Value} {q : Addr} {w : World} {rb : Nat} {ao : Option Addr} {n cap : Nat} {f : Nat → Int} {a k : Nat} {c p : Int} (h : Rs w rb ao n cap f a k c p) (h1 : q.block ≠ rb) (h2 : ∀ b off, ao = some ⟨b, off, none⟩ → q.block ≠ b) : Rs (w.setCell q v) rb ao n cap f a k c p :=
  h.turns (D := fun x => x = q.block) ⟨rfl, rfl, rfl, by simp, fun x _ hx => heap_setCell_other _ _ _ _ hx⟩ (fun e => h1 e.symm) (fun b off e e2 => h2 b off e e2.symm)

/-- Where what is left lies. -/
def rA (ao : Option Addr) (a cap : Nat) : Option Addr := if a < cap then ao.map (fun x => ⟨x.block, x.off + a, none⟩) else ao
theorem rA_lt (b off a cap : Nat) (h : a < cap) : rA (some ⟨b, off, none⟩) a cap = some ⟨b, off + a, none⟩ := by unfold rA; rw [if_pos h]; rfl
/-- What is left. -/
theorem rest_any (rb : Nat) (ao : Option Addr) (n cap : Nat) (f : Nat → Int) (a k : Nat) (c p : Int) (w : World) (h : Rs w rb ao n cap f a k c p) :
    Calls Tryz.prog 44 #[.pointer (some ⟨rb, 0, none⟩)] w fun e w' => ∃ q, e = .returned (.slice (rA ao a cap) (n - a) (cap - a)) ∧ w' = w.drewN q := by
  obtain ⟨c0, c1, c2, c3, c4, -⟩ := h.cells
  have hn := h.nn
  have ha := h.aa
  have hcc := h.cc
  have hcm := h.cm
  obtain ⟨b, off, rfl, hb, -⟩ := h.byt
  have l1 : (0 : Int) ≤ (a : Int) := by omega
  have l2 : (a : Int) ≤ (n : Int) := by omega
  have l3 : (n : Int) ≤ (cap : Int) := by omega
  by_cases hac : a < cap
  · have l4 : (a : Int) < (cap : Int) := by omega
    have l5 : ¬ cap = a := by omega
    have l6 : ¬ cap - a = 0 := by omega
    rw [rA_lt b off a cap hac]
    clear h
    go_enter Tryz.func44, Tryz.ntmps44
    go_wp2
    go_quiet (fail)
    go_wp2
    go_ret
    exact ⟨_, rfl, rfl⟩
  · obtain rfl : a = cap := by omega
    obtain rfl : n = a := by omega
    rw [show rA (some ⟨b, off, none⟩) n n = some ⟨b, off, none⟩ from by unfold rA; rw [if_neg (by omega)]]
    clear h
    go_enter Tryz.func44, Tryz.ntmps44
    go_wp2
    go_quiet (fail)
    go_wp2
    go_ret
    exact ⟨_, by simp, rfl⟩
theorem fail_any (rb : Nat) (ao : Option Addr) (n cap : Nat) (f : Nat → Int) (a k : Nat) (c p : Int) (w : World) (h : Rs w rb ao n cap f a k c p) (x y : Int) :
    Calls Tryz.prog 47 #[.pointer (some ⟨rb, 0, none⟩), .int .i64 x, .int .i64 y] w fun e w' => e = .returned (.bool false) ∧ Rs w' rb ao n cap f a k x y ∧ Tn rb w w' := by
  obtain ⟨c0, c1, c2, c3, c4, z0, z1, z2, z3, z4⟩ := h.cells
  have S := (h.put3 x).put4 y
  have T : Tn rb w _ := Tn.put (Tn.put (lin.Turns.refl _ w) 3 (.int .i64 x)) 4 (.int .i64 y)
  clear h
  go_enter Tryz.func47, Tryz.ntmps47
  go_wp2
  go_ret
  exact ⟨rfl, S, T⟩
theorem rdigit_any (x : Int) (w : World) : Calls Tryz.prog 52 #[.int .u8 x] w fun e w' => e = .returned (.bool (digitB x)) ∧ w' = w := by
  unfold digitB
  by_cases h1 : 48 ≤ x <;> by_cases h2 : x ≤ 57
  all_goals first | (exfalso; omega) | skip
  all_goals go_enter Tryz.func52, Tryz.ntmps52
  all_goals go_wp2
  all_goals go_ret
  all_goals exact ⟨by simp [*], rfl⟩
/-- A letter of a name, or a stroke. -/
def lettB (x : Int) : Bool := letterB x || x == 95
theorem rletter_any (x : Int) (w : World) : Calls Tryz.prog 51 #[.int .u8 x] w fun e w' => e = .returned (.bool (lettB x)) ∧ w' = w := by
  unfold lettB letterB
  by_cases h1 : 97 ≤ x <;> by_cases h2 : x ≤ 122 <;> by_cases h3 : 65 ≤ x <;> by_cases h4 : x ≤ 90 <;> by_cases h5 : x = 95
  all_goals first | (exfalso; omega) | skip
  all_goals first | subst h5 | have h6 : (x == 95) = false := by simp [h5]
  all_goals go_enter Tryz.func51, Tryz.ntmps51
  all_goals go_wp2
  all_goals go_ret
  all_goals exact ⟨by simp [*], rfl⟩
def hexB (x : Int) : Bool := digitB x || (decide (97 ≤ x) && decide (x ≤ 102)) || (decide (65 ≤ x) && decide (x ≤ 70))
theorem rhexDigit_any (x : Int) (w : World) : Calls Tryz.prog 87 #[.int .u8 x] w fun e w' => e = .returned (.bool (hexB x)) ∧ w' = w := by
  have C := rdigit_any x w
  unfold hexB
  cases hd : digitB x with
  | true =>
    rw [hd] at C
    go_enter Tryz.func87, Tryz.ntmps87
    go_wp2_with fail
    refine C.mono ?_
    rintro e w1 ⟨rfl, rfl⟩
    go_wp2
    go_ret
    exact ⟨by simp, rfl⟩
  | false =>
    rw [hd] at C
    by_cases h1 : 97 ≤ x <;> by_cases h2 : x ≤ 102 <;> by_cases h3 : 65 ≤ x <;> by_cases h4 : x ≤ 70
    all_goals first | (exfalso; omega) | skip
    all_goals go_enter Tryz.func87, Tryz.ntmps87
    all_goals go_wp2_with fail
    all_goals refine C.mono ?_
    all_goals rintro e w1 ⟨rfl, rfl⟩
    all_goals go_wp2
    all_goals go_ret
    all_goals refine ⟨?_, rfl⟩
    all_goals first | (simp [*]; done) | (simp [*]; omega)
end Go.Proofs.YtlgkfnecahgedaaGreatDoor.tok
end

section
/- Which text stands there, and whether what is left is its beginning. -/
set_option linter.unusedVariables false
set_option linter.unusedSimpArgs false
namespace Go.Proofs.YtlgkfnecahgedaaGreatDoor.tok
open Go.RowKit
open lin (BA Turns)

/-- Whether a text stands at a place. -/
def hasB (f : Nat → Int) (n : Nat) : Nat → List UInt8 → Bool
  | _, [] => true
  | a, x :: l => at_ f n a (x.toNat : Int) && hasB f n (a + 1) l
/-- Whether what is left is a beginning of a text, and not all of it. -/
def endsB (f : Nat → Int) (n : Nat) : Nat → List UInt8 → Bool
  | _, [] => false
  | a, x :: l => decide (n ≤ a) || (at_ f n a (x.toNat : Int) && endsB f n (a + 1) l)
theorem byte_eq (x : Int) (y : UInt8) (h0 : 0 ≤ x) (h1 : x ≤ 255) : (UInt8.ofNat x.toNat == y) = (x == (y.toNat : Int)) := by
  have e : (UInt8.ofNat x.toNat).toNat = x.toNat := by
    rw [UInt8.toNat_ofNat']
    omega
  rw [Bool.eq_iff_iff, beq_iff_eq, beq_iff_eq]
  constructor
  · rintro rfl; rw [e]; omega
  · intro h
    apply UInt8.toNat_inj.1
    rw [e]; omega
theorem bytes_cons (f : Nat → Int) (a m : Nat) : bytes f a (a + (m + 1)) = UInt8.ofNat (f a).toNat :: bytes f (a + 1) (a + 1 + m) := by
  unfold bytes
  rw [show a + (m + 1) - a = m + 1 by omega, show a + 1 + m - (a + 1) = m by omega, List.range_succ_eq_map, List.map_cons, List.map_map]
  simp only [Nat.add_zero, List.cons.injEq, true_and]
  refine List.map_congr_left fun i _ => ?_
  simp only [Function.comp_apply]
  rw [show a + (i + 1) = a + 1 + i by omega]
theorem bytes_zero (f : Nat → Int) (a : Nat) : bytes f a a = [] := by simp [bytes]
theorem has_eq (f : Nat → Int) (n : Nat) (hf : ∀ i, 0 ≤ f i ∧ f i ≤ 255) : ∀ (l : List UInt8) (a : Nat), a + l.length ≤ n → (bytes f a (a + l.length) == l) = hasB f n a l := by
  intro l
  induction l with
  | nil => intro a _; simp [bytes, hasB]
  | cons x l ih =>
    intro a h
    rw [List.length_cons] at h ⊢
    rw [bytes_cons]
    simp only [hasB]
    rw [← ih (a + 1) (by omega)]
    have := byte_eq (f a) x (hf a).1 (hf a).2
    unfold at_
    rw [show decide (a < n) = true from by simp; omega, Bool.true_and, ← this]
    rfl
theorem has_long (f : Nat → Int) (n : Nat) : ∀ (l : List UInt8) (a : Nat), a ≤ n → n < a + l.length → hasB f n a l = false := by
  intro l
  induction l with
  | nil => intro a h h2; simp at h2; omega
  | cons x l ih =>
    intro a h h2
    rw [List.length_cons] at h2
    simp only [hasB]
    by_cases ha : a < n
    · rw [ih (a + 1) (by omega) (by omega), Bool.and_false]
    · unfold at_; simp [ha]
theorem ends_eq (f : Nat → Int) (n : Nat) (hf : ∀ i, 0 ≤ f i ∧ f i ≤ 255) : ∀ (l : List UInt8) (a : Nat), a ≤ n → n < a + l.length → (bytes f a n == l.take (n - a)) = endsB f n a l := by
  intro l
  induction l with
  | nil => intro a h h2; simp at h2; omega
  | cons x l ih =>
    intro a h h2
    rw [List.length_cons] at h2
    simp only [endsB]
    by_cases ha : a < n
    · obtain ⟨m, hm⟩ : ∃ m, n = a + (m + 1) := ⟨n - a - 1, by omega⟩
      have := ih (a + 1) (by omega) (by omega)
      have hb := byte_eq (f a) x (hf a).1 (hf a).2
      rw [show decide (n ≤ a) = false from by simp; omega, Bool.false_or, ← this]
      rw [show n - a = (n - (a + 1)) + 1 by omega, List.take_succ_cons]
      unfold at_
      rw [show decide (a < n) = true from by simp [ha], Bool.true_and, ← hb]
      rw [hm, bytes_cons, show a + (m + 1) = a + 1 + m by omega]
      rfl
    · obtain rfl : n = a := by omega
      simp [bytes]
theorem ends_short (f : Nat → Int) (n : Nat) : ∀ (l : List UInt8) (a : Nat), a + l.length ≤ n → endsB f n a l = false := by
  intro l
  induction l with
  | nil => intro a _; rfl
  | cons x l ih =>
    intro a h
    rw [List.length_cons] at h
    simp only [endsB]
    rw [ih (a + 1) (by omega), Bool.and_false, Bool.or_false]
    simp; omega
theorem Rs.conv {w : World} {rb : Nat} {n cap : Nat} {f : Nat → Int} {a k : Nat} {c p : Int} {b off : Nat} (h : Rs w rb (some ⟨b, off, none⟩) n cap f a k c p) (b0 e0 d : Nat) (h0 : b0 ≤ e0) (h1 : e0 ≤ n) :
    (convert 22 9 (.slice (some ⟨b, off + b0, none⟩) (e0 - b0) d)).run Tryz.prog w = .ok (.string (BA (bytes f b0 e0))) w := by
  obtain ⟨b', off', e, hne, hc⟩ := h.byt
  cases e
  rw [← bytes_str]
  refine run_convert_bytes_arg (P := Tryz.prog) w 22 5 Tryz.underlying22 Tryz.underlying5 b (off + b0) (e0 - b0) d _ (by simp) (fun i hi => ?_) 9 Tryz.underlying9
  rw [Nat.add_assoc, hc (b0 + i) (by omega)]
  simp [List.getD, hi]
theorem BA_beq (x y : List UInt8) : ((BA x).toList == (BA y).toList) = (x == y) := by rw [Lib.toList_data, Lib.toList_data]; rfl

set_option maxHeartbeats 1000000 in
set_option maxRecDepth 100000 in
theorem has_any (rb : Nat) (ao : Option Addr) (n cap : Nat) (f : Nat → Int) (a k : Nat) (c p : Int) (w : World) (h : Rs w rb ao n cap f a k c p) (l : List UInt8) (hl : 0 < l.length) (hl2 : l.length ≤ 100) :
    Calls Tryz.prog 27 #[.pointer (some ⟨rb, 0, none⟩), .string (BA l)] w fun e w' => ∃ q, e = .returned (.bool (hasB f n a l)) ∧ w' = w.drewN q := by
  obtain ⟨b, off, rfl, hb, hc⟩ := h.byt
  have hn := h.nn
  have ha := h.aa
  have hcc := h.cc
  have hcm := h.cm
  have R0 := rest_any rb _ n cap f a k c p w h
  have RE := fun q => rest_any rb _ n cap f a k c p (w.drewN q) (h.drewN q)
  have hsz : (BA l).size = l.length := rfl
  by_cases hln : a + l.length ≤ n
  · have HE := has_eq f n h.ff l a hln
    have CV := fun q => (h.drewN q).conv a (a + l.length) (cap - a) (by omega) hln
    rw [← HE, ← BA_beq]
    generalize BA (bytes f a (a + l.length)) = X at *
    generalize BA l = Y at *
    have han : a < n := by omega
    rw [rA_lt b off a cap (by omega)] at R0
    have RE : ∀ q, Calls Tryz.prog 44 #[.pointer (some ⟨rb, 0, none⟩)] (w.drewN q) fun e w' => ∃ q', e = .returned (.slice (some ⟨b, off + a, none⟩) (n - a) (cap - a)) ∧ w' = (w.drewN q).drewN q' := fun q => by have := RE q; rw [rA_lt b off a cap (by omega)] at this; exact this
    clear HE hc h
    generalize l.length = m at *
    have q1 : (m : Int) ≤ ((n - a : Nat) : Int) := by omega
    have q2 : (m : Int) ≤ ((cap - a : Nat) : Int) := by omega
    have q3 : (0 : Int) ≤ (m : Int) := by omega
    have q4 : a + m - a = m := by omega
    rw [q4] at CV
    go_enter Tryz.func27, Tryz.ntmps27
    go_wp2_with fail
    refine R0.mono ?_
    rintro e w1 ⟨q, rfl, rfl⟩
    go_wp2_with fail
    refine (RE _).mono ?_
    rintro e w2 ⟨q', rfl, rfl⟩
    rw [World.drewN_drewN]
    have CV1 := CV (q + q')
    clear CV RE R0
    go_wp2
    go_ret
    exact ⟨_, rfl, rfl⟩
  · have HE := has_long f n l a ha (by omega)
    rw [HE]
    clear HE hc h RE
    generalize BA l = Y at *
    generalize l.length = m at *
    have q1 : ¬ (m : Int) ≤ ((n - a : Nat) : Int) := by omega
    go_enter Tryz.func27, Tryz.ntmps27
    go_wp2_with fail
    refine R0.mono ?_
    rintro e w1 ⟨q, rfl, rfl⟩
    clear R0
    go_wp2
    go_ret
    exact ⟨_, rfl, rfl⟩
theorem BA_take (l : List UInt8) (m : Nat) : (BA l).extract 0 m = BA (l.take m) := nam.ext_take (BA l) m
set_option maxHeartbeats 1000000 in
set_option maxRecDepth 100000 in
theorem ends_any (rb : Nat) (ao : Option Addr) (n cap : Nat) (f : Nat → Int) (a k : Nat) (c p : Int) (w : World) (h : Rs w rb ao n cap f a k c p) (l : List UInt8) (hl2 : l.length ≤ 100) :
    Calls Tryz.prog 83 #[.pointer (some ⟨rb, 0, none⟩), .string (BA l)] w fun e w' => ∃ q, e = .returned (.bool (endsB f n a l)) ∧ w' = w.drewN q := by
  obtain ⟨b, off, rfl, hb, hc⟩ := h.byt
  have hn := h.nn
  have ha := h.aa
  have hcc := h.cc
  have hcm := h.cm
  have R0 := rest_any rb _ n cap f a k c p w h
  have RE := fun q => rest_any rb _ n cap f a k c p (w.drewN q) (h.drewN q)
  have hsz : (BA l).size = l.length := rfl
  by_cases hln : a + l.length ≤ n
  · have HE := ends_short f n l a hln
    rw [HE]
    clear HE hc h RE
    generalize BA l = Y at *
    generalize l.length = m at *
    have q1 : ¬ ((n - a : Nat) : Int) < (m : Int) := by omega
    have q5 : decide (((n - a : Nat) : Int) < (m : Int)) = false := by simp [q1]
    have q8 : decide (n - a < m) = false := by simp; omega
    have q9 : ¬ n - a < m := by omega
    clear q5
    go_enter Tryz.func83, Tryz.ntmps83
    go_wp2_with fail
    refine R0.mono ?_
    rintro e w1 ⟨q, rfl, rfl⟩
    clear R0
    go_wp2
    go_quiet (fail)
    go_wp2
    go_ret
    exact ⟨_, rfl, by rw [World.drewN_drewN]⟩
  · have HE := ends_eq f n h.ff l a ha (by omega)
    rw [← HE, ← BA_beq]
    have CV : ∀ q, (convert 22 9 (.slice (rA (some ⟨b, off, none⟩) a cap) (n - a) (cap - a))).run Tryz.prog (w.drewN q) = .ok (.string (BA (bytes f a n))) (w.drewN q) := fun q => by
      by_cases hac : a < cap
      · rw [rA_lt b off a cap hac]
        exact (h.drewN q).conv a n (cap - a) ha (Nat.le_refl _)
      · obtain rfl : a = n := by omega
        have e : rA (some ⟨b, off, none⟩) a cap = some ⟨b, off, none⟩ := by unfold rA; rw [if_neg hac]
        have := (h.drewN q).conv 0 0 (cap - a) (Nat.le_refl _) (by omega)
        rw [e, bytes_zero, Nat.sub_self]
        rw [bytes_zero] at this
        exact this
    have TK := BA_take l (n - a)
    generalize BA (bytes f a n) = X at *
    generalize BA (l.take (n - a)) = Z at *
    generalize BA l = Y at *
    generalize rA (some ⟨b, off, none⟩) a cap = ra at *
    clear HE hc h
    generalize l.length = m at *
    have q1 : ((n - a : Nat) : Int) < (m : Int) := by omega
    have q2 : (0 : Int) ≤ ((n - a : Nat) : Int) := by omega
    have q3 : ((n - a : Nat) : Int) ≤ (m : Int) := by omega
    have q5 : decide (((n - a : Nat) : Int) < (m : Int)) = true := by simp [q1]
    have q8 : decide (n - a < m) = true := by simp; omega
    have q9 : n - a < m := by omega
    clear q5
    go_enter Tryz.func83, Tryz.ntmps83
    go_wp2_with fail
    refine R0.mono ?_
    rintro e w1 ⟨q, rfl, rfl⟩
    clear R0
    go_wp2
    have RE2 : ∀ q, Calls Tryz.prog 44 #[.pointer (some ⟨rb, 0, none⟩)] (w.drewN q) fun e w' => e = .returned (.slice ra (n - a) (cap - a)) ∧ ∃ q', w' = w.drewN (q + q') := fun q => (RE q).mono fun e w' h => by obtain ⟨q', h1, h2⟩ := h; exact ⟨h1, q', by rw [h2, World.drewN_drewN]⟩
    clear RE
    go_quiet (exact (RE2 _).mono fun _ _ h => ⟨h.1, h.2.elim fun q' e => ⟨_, e.trans (by rw [Nat.add_assoc])⟩⟩)
    go_wp2
    go_ret
    exact ⟨_, rfl, by rw [World.drewN_drewN]⟩
end Go.Proofs.YtlgkfnecahgedaaGreatDoor.tok
end

section
/- The document's next code point. -/
set_option linter.unusedVariables false
set_option linter.unusedSimpArgs false
namespace Go.Proofs.YtlgkfnecahgedaaGreatDoor.tok
open Go.RowKit
open lin (BA Turns)

theorem bytes_seg (f : Nat → Int) (a m : Nat) : bytes f a (a + m) = Lib.bytesOf (utf.seg f a m) := by
  simp [bytes, Lib.bytesOf, utf.seg, Function.comp_def]
theorem cmp_enc (f : Nat → Int) (n a : Nat) (hf : ∀ i, 0 ≤ f i ∧ f i ≤ 255) (ha : a < n) : ((strOfNums (utf.enc (utf.it f n a).1)).toList == (BA (bytes f a (utf.it f n a).2.1)).toList) = (utf.it f n a).2.2 := by
  have e := utf.it_end f n a ha
  rw [Lib.strOfNums_toList, Lib.toList_data, lin.BA_data]
  obtain ⟨m, hm⟩ : ∃ m, (utf.it f n a).2.1 = a + m := ⟨(utf.it f n a).2.1 - a, by omega⟩
  cases hk : (utf.it f n a).2.2 with
  | true =>
    have := (utf.it_good f n a hf hk).2
    rw [this, hm, show a + m - a = m by omega, bytes_seg]
    simp
  | false =>
    rw [utf.it_bad f n a hk, utf.enc_fffd, hm, beq_eq_false_iff_ne]
    intro hh
    have l3 := congrArg List.length hh
    simp [Lib.bytesOf, bytes] at l3
    obtain rfl : m = 3 := by omega
    rw [bytes_cons, bytes_cons, bytes_cons] at hh
    simp only [Lib.bytesOf, List.map_cons, List.cons.injEq] at hh
    obtain ⟨h0, h1, h2, -⟩ := hh
    have k0 := byte_eq (f a) 239 (hf a).1 (hf a).2
    have k1 := byte_eq (f (a + 1)) 191 (hf _).1 (hf _).2
    have k2 := byte_eq (f (a + 1 + 1)) 189 (hf _).1 (hf _).2
    have f0 : f a = 239 := by rw [← h0] at k0; simpa using k0.symm
    have f1 : f (a + 1) = 191 := by rw [← h1] at k1; simpa using k1.symm
    have f2 : f (a + 2) = 189 := by rw [← h2] at k2; simpa using k2.symm
    have := utf.it_fffd f n a f0 f1 f2 (by omega)
    rw [this] at hk
    exact absurd hk (by simp)

/-- How a method of the document's scanner ends: by a value, or by false and a fault. -/
def REnd {α : Type} (w : World) (rb : Nat) (ao : Option Addr) (n cap : Nat) (f : Nat → Int) (a k : Nat) (c p : Int) (val : α → Value) (bad : Value) : Out α → Ending → World → Prop
  | .ok v a', e, w' => e = .returned (val v) ∧ Rs w' rb ao n cap f a' k c p ∧ Tn rb w w'
  | .no c' p', e, w' => e = .returned bad ∧ (∃ a', Rs w' rb ao n cap f a' k c' p') ∧ Tn rb w w'
def cv (r : Int) : Value := .tuple #[.int .i64 r, .bool true]
set_option maxHeartbeats 2000000 in
set_option maxRecDepth 100000 in
theorem rchar_any (rb : Nat) (ao : Option Addr) (n cap : Nat) (f : Nat → Int) (a k : Nat) (c p : Int) (w : World) (h : Rs w rb ao n cap f a k c p) (hl : a < n) :
    Calls Tryz.prog 29 #[.pointer (some ⟨rb, 0, none⟩)] w (REnd w rb ao n cap f a k c p cv (.tuple #[.int .i64 0, .bool false]) (point f n a)) := by
  have hlt := h.lt
  obtain ⟨c0, c1, c2, c3, c4, z0, z1, z2, z3, z4⟩ := h.cells
  have hn := h.nn
  have ha := h.aa
  obtain ⟨R, hR⟩ : ∃ R, point f n a = R := ⟨_, rfl⟩
  rw [hR]
  have HR : Hid (R = if (utf.it f n a).2.2 = true then .ok (utf.it f n a).1 (utf.it f n a).2.1 else .no 131 a) := by unfold Hid; rw [← hR]; unfold point; rw [if_pos hl]
  clear hR
  obtain ⟨b, off, rfl, hb, hcc⟩ := h.byt
  have NX : Hid (∀ W, Below w.heap.size w W → Calls Tryz.prog 53 #[.slice (some ⟨b, off, none⟩) n cap, .int .i64 a] W fun e w' =>
    e = .returned (.tuple #[.agg #[.int .i64 (utf.it f n a).1, .int .i64 a, .int .i64 (utf.it f n a).2.1], .bool true]) ∧ Below W.heap.size W w' ∧ w'.cell? ⟨rb, 0, none⟩ = some (.slice (some ⟨b, off, none⟩) n cap) ∧ w'.cell? ⟨rb, 1, none⟩ = some (.int .i64 a)) := fun W hW => (utf.rnext_yes b off n cap f a W (fun i hi => (hW.cell (World.block_lt_of_cell? w _ (hcc i hi))).trans (hcc i hi)) hl (by omega) h.cc h.cm h.ff).mono fun e w' H =>
      ⟨H.1, H.2, (hW.trans (H.2.mono hW.size)).cell (p := ⟨rb, 0, none⟩) hlt |>.trans c0, (hW.trans (H.2.mono hW.size)).cell (p := ⟨rb, 1, none⟩) hlt |>.trans c1⟩
  have hie := utf.it_end f n a hl
  have HCMP := cmp_enc f n a h.ff hl
  have HL : Hid (utf.len (utf.it f n a).1 ≠ 0) := utf.it_len f n a h.ff
  have hcc2 := h.cc
  clear hcc
  generalize (utf.it f n a).1 = r at *
  generalize (utf.it f n a).2.1 = E at *
  generalize (utf.it f n a).2.2 = K at *
  have l1 : (0 : Int) ≤ (a : Int) := by omega
  have l2 : (a : Int) ≤ (E : Int) := by omega
  have l3 : (E : Int) ≤ (cap : Int) := by omega
  have l4 : (a : Int) < (cap : Int) := by omega
  have l5 : ¬ cap = a := by omega
  have l6 : ¬ cap - a = 0 := by omega
  have l7 : (E : Int) ≤ (n : Int) := by omega
  have l8 : (0 : Int) ≤ (E : Int) := by omega
  have hne : ¬ rb = w.heap.size := by omega
  have hne' : ¬ w.heap.size = rb := by omega
  have hnw := World.new_ne w _ c0
  have hnw1 := World.new_ne w _ c1
  go_enter Tryz.func29, Tryz.ntmps29
  go_wp2
  go_region_held3 (fun w' => w'.cell? ⟨rb, 0, none⟩ = some (.slice (some ⟨b, off, none⟩) n cap) ∧ w'.cell? ⟨rb, 1, none⟩ = some (.int .i64 a)) (go_keep)
    (first | (go_at_call 53; refine (NX.out _ ?_).mono ?_; (rotate_left; rintro e w1 ⟨rfl, hb1, m0, m1⟩; obtain ⟨q1, q2, q3⟩ := below_eqs hb1; rotate_right; (repeat' first | exact Below.refl _ _ | assumption | refine below_drewN ?_ _ | refine Below.setCell ?_ (by simp) _ | refine Below.alloc ?_ (by simp) _))))
  · have hg : (w1.alloc (.cells #[.int .i64 r, .int .i64 a, .int .i64 E] 88)).heap[w1.heap.size]? = some (.cells #[.int .i64 r, .int .i64 a, .int .i64 E] 88 (0, 0)) := World.alloc_heap_new _ _
    have S0 := h.drew.below hb1
    have S := S0.alloc (.cells #[.int .i64 r, .int .i64 a, .int .i64 E] 88)
    have T0 : Tn rb w w1 := Tn.beyond (lin.Turns.drew (lin.Turns.refl _ w)) hb1
    have T := Tn.more T0 (.cells #[.int .i64 r, .int .i64 a, .int .i64 E] 88)
    obtain ⟨g, hG⟩ : ∃ g, w1.heap.size = g := ⟨_, rfl⟩
    have hgl : w.heap.size ≤ g := by rw [← hG]; exact T0.size
    clear m0 m1 q1 q2 q3 hb1 S0 T0
    generalize w1.alloc (.cells #[.int .i64 r, .int .i64 a, .int .i64 E] 88) = W at *
    rw [hG] at hg ⊢
    clear hG
    have hgs : g < W.heap.size := (Array.getElem?_eq_some_iff.1 hg).1
    have hgne : ¬ g = rb := by omega
    obtain ⟨g0, g1, g2, y0, y1, y2⟩ := utf.blk3 hg
    have EN := utf.renc_yes r W HL.out
    go_wp2_with fail
    refine EN.mono ?_
    rintro e w3 ⟨rfl, hw3⟩
    clear EN
    have B3 : Below W.heap.size W w3 := by rw [hw3]; exact (Below.refl _ _).alloc (Nat.le_refl _) _
    have N3 : w3.heap[W.heap.size]? = some (.cells ((utf.enc r).map (Value.int .u8)).toArray 5 (0, 0)) := by rw [hw3]; exact World.alloc_heap_new _ _
    clear hw3
    have S3 := S.below B3
    have T3 := Tn.beyond T B3
    obtain ⟨g0', g1', g2', -, -, -⟩ := utf.blk3 ((B3.block g hgs).trans hg)
    obtain ⟨d0, d1, d2, d3, d4, x0, x1, x2, x3, x4⟩ := S3.cells
    have CV1 : ∀ q, (convert 22 9 (.slice (some ⟨W.heap.size, 0, none⟩) (utf.enc r).length (utf.enc r).length)).run Tryz.prog (w3.drewN q) = .ok (.string (strOfNums (utf.enc r))) (w3.drewN q) := fun q => utf.bts_block (w := w3.drewN q) _ N3
    have CV2 := fun q => (S3.drewN q).conv a E (cap - a) (by omega) (by omega)
    have CV3 : (convert 22 9 (.slice (some ⟨W.heap.size, 0, none⟩) (utf.enc r).length (utf.enc r).length)).run Tryz.prog w3 = .ok (.string (strOfNums (utf.enc r))) w3 := utf.bts_block (w := w3) _ N3
    have CV4 := S3.conv a E (cap - a) (by omega) (by omega)
    clear hg S T g0 g1 g2 y0 y1 y2
    have HK : Hid (((strOfNums (utf.enc r)).toList == (BA (bytes f a E)).toList) = K) := HCMP
    generalize strOfNums (utf.enc r) = X at *
    generalize BA (bytes f a E) = Y at *
    generalize (utf.enc r).length = m at *
    go_wp2
    go_quiet (fail)
    cases K with
    | true =>
      obtain rfl : R = .ok r E := HR.out
      have hk1 : (X.toList == Y.toList) = true := HK.out
      have hk2 : (!(X.toList == Y.toList)) = false := by rw [hk1]; rfl
      have hk3 : (X.toList != Y.toList) = false := by unfold bne; rw [hk1]; rfl
      go_wp2
      go_ret2
      refine ⟨rfl, ?_, ?_⟩
      · exact Rs.put1 (S3.drewN _) rfl (by omega)
      · exact Tn.put (Tn.drewN T3 _) _ _
    | false =>
      obtain rfl : R = .no 131 a := HR.out
      have hk1 : (X.toList == Y.toList) = false := HK.out
      have hk2 : (!(X.toList == Y.toList)) = true := by rw [hk1]; rfl
      have hk3 : (X.toList != Y.toList) = true := by unfold bne; rw [hk1]; rfl
      have FA := fun q => fail_any rb _ n cap f a k c p _ (S3.drewN q) 131 a
      go_wp2_with fail
      refine (FA _).mono ?_
      rintro e w4 ⟨rfl, S4, T4⟩
      have T5 := (Tn.drewN T3 _).trans T4
      go_wp2
      go_ret2
      exact ⟨rfl, ⟨_, S4⟩, T5⟩
  · have hg0 : w1.heap[w.heap.size]? = some (.cells #[.int .i64 0, .int .i64 0, .int .i64 0] 88 (0, 0)) := (hb1.block _ (by simp)).trans (World.alloc_heap_new _ _)
    have hg := heap_setCell_same _ _ 2 _ _ (.int .i64 E) (heap_setCell_same _ _ 1 _ _ (.int .i64 a) (heap_setCell_same _ _ 0 _ _ (.int .i64 r) hg0))
    have S0 := (h.alloc (.cells #[.int .i64 0, .int .i64 0, .int .i64 0] 88)).drew.below hb1
    have hbb : ∀ b' off', (some ⟨b, off, none⟩ : Option Addr) = some ⟨b', off', none⟩ → w.heap.size ≠ b' := fun b' off' e => by have := h.bytes_lt e; omega
    have S := Rs.set (q := ⟨w.heap.size, 2, none⟩) (v := .int .i64 E) (Rs.set (q := ⟨w.heap.size, 1, none⟩) (v := .int .i64 a) (Rs.set (q := ⟨w.heap.size, 0, none⟩) (v := .int .i64 r) S0 hne' hbb) hne' hbb) hne' hbb
    have T0 : Tn rb w w1 := Tn.beyond (lin.Turns.drew (Tn.more (lin.Turns.refl _ w) _)) hb1
    have T := Tn.new (p := ⟨w.heap.size, 2, none⟩) (Tn.new (p := ⟨w.heap.size, 1, none⟩) (Tn.new (p := ⟨w.heap.size, 0, none⟩) T0 (Nat.le_refl _) (.int .i64 r)) (Nat.le_refl _) (.int .i64 a)) (Nat.le_refl _) (.int .i64 E)
    clear m0 m1 q1 q2 q3 hb1 hg0 S0 T0 hbb
    obtain ⟨g, hG⟩ : ∃ g, w.heap.size = g := ⟨_, rfl⟩
    have hgl : w.heap.size ≤ g := by omega
    generalize ((w1.setCell ⟨w.heap.size, 0, none⟩ (.int .i64 r)).setCell ⟨w.heap.size, 1, none⟩ (.int .i64 a)).setCell ⟨w.heap.size, 2, none⟩ (.int .i64 E) = W at *
    rw [hG] at hg ⊢
    clear hG
    have hgs : g < W.heap.size := (Array.getElem?_eq_some_iff.1 hg).1
    have hgne : ¬ g = rb := by omega
    obtain ⟨g0, g1, g2, y0, y1, y2⟩ := utf.blk3 hg
    have EN := utf.renc_yes r W HL.out
    go_wp2_with fail
    refine EN.mono ?_
    rintro e w3 ⟨rfl, hw3⟩
    clear EN
    have B3 : Below W.heap.size W w3 := by rw [hw3]; exact (Below.refl _ _).alloc (Nat.le_refl _) _
    have N3 : w3.heap[W.heap.size]? = some (.cells ((utf.enc r).map (Value.int .u8)).toArray 5 (0, 0)) := by rw [hw3]; exact World.alloc_heap_new _ _
    clear hw3
    have S3 := S.below B3
    have T3 := Tn.beyond T B3
    obtain ⟨g0', g1', g2', -, -, -⟩ := utf.blk3 ((B3.block g hgs).trans hg)
    obtain ⟨d0, d1, d2, d3, d4, x0, x1, x2, x3, x4⟩ := S3.cells
    have CV1 : ∀ q, (convert 22 9 (.slice (some ⟨W.heap.size, 0, none⟩) (utf.enc r).length (utf.enc r).length)).run Tryz.prog (w3.drewN q) = .ok (.string (strOfNums (utf.enc r))) (w3.drewN q) := fun q => utf.bts_block (w := w3.drewN q) _ N3
    have CV2 := fun q => (S3.drewN q).conv a E (cap - a) (by omega) (by omega)
    have CV3 : (convert 22 9 (.slice (some ⟨W.heap.size, 0, none⟩) (utf.enc r).length (utf.enc r).length)).run Tryz.prog w3 = .ok (.string (strOfNums (utf.enc r))) w3 := utf.bts_block (w := w3) _ N3
    have CV4 := S3.conv a E (cap - a) (by omega) (by omega)
    clear hg S T g0 g1 g2 y0 y1 y2
    have HK : Hid (((strOfNums (utf.enc r)).toList == (BA (bytes f a E)).toList) = K) := HCMP
    generalize strOfNums (utf.enc r) = X at *
    generalize BA (bytes f a E) = Y at *
    generalize (utf.enc r).length = m at *
    go_wp2
    go_quiet (fail)
    cases K with
    | true =>
      obtain rfl : R = .ok r E := HR.out
      have hk1 : (X.toList == Y.toList) = true := HK.out
      have hk2 : (!(X.toList == Y.toList)) = false := by rw [hk1]; rfl
      have hk3 : (X.toList != Y.toList) = false := by unfold bne; rw [hk1]; rfl
      go_wp2
      go_ret2
      refine ⟨rfl, ?_, ?_⟩
      · exact Rs.put1 (S3.drewN _) rfl (by omega)
      · exact Tn.put (Tn.drewN T3 _) _ _
    | false =>
      obtain rfl : R = .no 131 a := HR.out
      have hk1 : (X.toList == Y.toList) = false := HK.out
      have hk2 : (!(X.toList == Y.toList)) = true := by rw [hk1]; rfl
      have hk3 : (X.toList != Y.toList) = true := by unfold bne; rw [hk1]; rfl
      have FA := fun q => fail_any rb _ n cap f a k c p _ (S3.drewN q) 131 a
      go_wp2_with fail
      refine (FA _).mono ?_
      rintro e w4 ⟨rfl, S4, T4⟩
      have T5 := (Tn.drewN T3 _).trans T4
      go_wp2
      go_ret2
      exact ⟨rfl, ⟨_, S4⟩, T5⟩
end Go.Proofs.YtlgkfnecahgedaaGreatDoor.tok
end

section
/- The document's numbers. -/
set_option linter.unusedVariables false
set_option linter.unusedSimpArgs false
namespace Go.Proofs.YtlgkfnecahgedaaGreatDoor.tok
open Go.RowKit
open lin (BA Turns)

/-- How many of up to m places from a on hold what is asked for. -/
def cntD (d : Int → Bool) (f : Nat → Int) (n : Nat) : Nat → Nat → Nat
  | 0, _ => 0
  | m + 1, a => if a < n ∧ d (f a) = true then cntD d f n m (a + 1) + 1 else 0
theorem cntD_le (d : Int → Bool) (f : Nat → Int) (n : Nat) : ∀ m a, cntD d f n m a ≤ m ∧ (a ≤ n → a + cntD d f n m a ≤ n) := by
  intro m
  induction m with
  | zero => intro a; simp [cntD]
  | succ m ih =>
    intro a
    simp only [cntD]
    split
    · have := ih (a + 1); omega
    · omega
/-- The number that so many digits from a on say, behind acc. -/
def valD (base : Int) (f : Nat → Int) : Nat → Nat → Int → Int
  | 0, _, acc => acc
  | m + 1, a, acc => valD base f m (a + 1) (acc * base + dgV (f a) base)
theorem digit_dg (c : Int) : (dgV c 10 < 10) = (digitB c = true) := by
  unfold dgV digitB
  apply propext
  constructor
  · intro h
    revert h
    (repeat' split) <;> intro h <;> simp <;> omega
  · intro h
    simp at h
    rw [if_pos h]; omega
theorem digit_val (c : Int) (h : digitB c = true) : dgV c 10 = c - 48 := by
  unfold digitB at h; simp at h
  unfold dgV; rw [if_pos h]
theorem hex_dg (c : Int) : (dgV c 16 < 16) = (hexB c = true) := by
  unfold dgV hexB digitB
  apply propext
  constructor
  · intro h
    revert h
    (repeat' split) <;> intro h <;> simp <;> omega
  · intro h
    simp at h
    (repeat' split) <;> omega
/-- Numbers as they are read byte by byte, and all digits first. -/
theorem numR_cnt (d : Int → Bool) (base : Int) (hd : ∀ c, (dgV c base < base) = (d c = true)) (f : Nat → Int) (n st : Nat) : ∀ m acc first a, a ≤ n →
    numR f n st base m acc first a = if n ≤ a + cntD d f n m a then .no 130 n else if cntD d f n m a = 0 ∧ first = true ∨ d (f (a + cntD d f n m a)) = true then nope f st else .ok (valD base f (cntD d f n m a) a acc, f (a + cntD d f n m a)) (a + cntD d f n m a + 1) := by
  have hy : ∀ c, d c = true → dgV c base < base := fun c h => by rw [hd c]; exact h
  have hz : ∀ c, ¬ d c = true → ¬ dgV c base < base := fun c h => by rw [hd c]; exact h
  intro m
  induction m with
  | zero =>
    intro acc first a ha
    rw [numR_step]
    have hC : cntD d f n 0 a = 0 := rfl
    rw [hC, Nat.add_zero]
    simp only [valD]
    by_cases hn : a < n
    · have e : octet f n a = .ok (f a) (a + 1) := by unfold octet; rw [if_pos hn]
      rw [e, bind_ok, if_neg (by omega : ¬ n ≤ a)]
      by_cases hc : d (f a) = true
      · rw [if_pos (hy _ hc), if_pos (.inr hc)]
      · rw [if_neg (hz _ hc)]
        by_cases hf : first = true
        · rw [if_pos hf, if_pos (.inl ⟨by simp, hf⟩)]
        · rw [if_neg hf, if_neg (fun h => h.elim (fun h => hf h.2) hc)]
    · have e : octet f n a = .no 130 n := by unfold octet; rw [if_neg hn]
      rw [e, bind_no, if_pos (by omega)]
  | succ m ih =>
    intro acc first a ha
    rw [numR_step]
    by_cases hn : a < n
    · have e : octet f n a = .ok (f a) (a + 1) := by unfold octet; rw [if_pos hn]
      rw [e, bind_ok]
      by_cases hc : d (f a) = true
      · rw [if_pos (hy _ hc)]
        have hC : cntD d f n (m + 1) a = cntD d f n m (a + 1) + 1 := by simp only [cntD]; rw [if_pos ⟨hn, hc⟩]
        rw [hC, ← Nat.add_assoc]
        simp only [valD]
        rw [ih _ _ _ (by omega)]
        rw [show a + 1 + cntD d f n m (a + 1) = a + cntD d f n m (a + 1) + 1 by omega]
        simp
      · rw [if_neg (hz _ hc)]
        have hC : cntD d f n (m + 1) a = 0 := by simp only [cntD]; rw [if_neg (fun h => hc h.2)]
        simp only [hC, Nat.add_zero, valD]
        rw [if_neg (by omega : ¬ n ≤ a)]
        by_cases hf : first = true
        · rw [if_pos hf, if_pos (.inl ⟨by simp, hf⟩)]
        · rw [if_neg hf, if_neg (fun h => h.elim (fun h => hf h.2) hc)]
    · have e : octet f n a = .no 130 n := by unfold octet; rw [if_neg hn]
      have hC : cntD d f n (m + 1) a = 0 := by simp only [cntD]; rw [if_neg (fun h => hn h.1)]
      rw [hC, e, bind_no, if_pos (by omega)]
theorem valD_snoc (base : Int) (f : Nat → Int) : ∀ m a acc, valD base f (m + 1) a acc = valD base f m a acc * base + dgV (f (a + m)) base := by
  intro m
  induction m with
  | zero => intro a acc; simp [valD]
  | succ m ih =>
    intro a acc
    show valD base f (m + 1) (a + 1) (acc * base + dgV (f a) base) = _
    rw [ih (a + 1)]
    show _ = valD base f m (a + 1) (acc * base + dgV (f a) base) * base + _
    rw [show a + 1 + m = a + (m + 1) by omega]
theorem cntD_at (d : Int → Bool) (f : Nat → Int) (n : Nat) : ∀ m a j, j < cntD d f n m a → a + j < n ∧ d (f (a + j)) = true := by
  intro m
  induction m with
  | zero => intro a j h; simp [cntD] at h
  | succ m ih =>
    intro a j h
    simp only [cntD] at h
    split at h
    · rename_i hc
      cases j with
      | zero => exact hc
      | succ j =>
        have := ih (a + 1) j (by omega)
        rw [show a + (j + 1) = a + 1 + j by omega]; exact this
    · omega
theorem cntD_end (d : Int → Bool) (f : Nat → Int) (n : Nat) : ∀ m a, cntD d f n m a < m → ¬ (a + cntD d f n m a < n ∧ d (f (a + cntD d f n m a)) = true) := by
  intro m
  induction m with
  | zero => intro a h; omega
  | succ m ih =>
    intro a h
    simp only [cntD] at h ⊢
    split
    · rename_i hc
      rw [if_pos hc] at h
      have := ih (a + 1) (by omega)
      rw [show a + (cntD d f n m (a + 1) + 1) = a + 1 + cntD d f n m (a + 1) by omega]; exact this
    · rename_i hc; rw [Nat.add_zero]; exact hc

/-- The value of a row of decimal digits, if there is one. -/
def numV (f : Nat → Int) (n m a : Nat) : Int := if cntD digitB f n m a = 0 then -1 else valD 10 f (cntD digitB f n m a) a 0
theorem valD_small (f : Nat → Int) (hf : ∀ i, 0 ≤ f i ∧ f i ≤ 255) : ∀ m a, (∀ j, j < m → digitB (f (a + j)) = true) → m ≤ 3 → 0 ≤ valD 10 f m a 0 ∧ valD 10 f m a 0 + 1 ≤ 10 ^ m := by
  intro m
  induction m with
  | zero => intro a _ _; simp [valD]
  | succ m ih =>
    intro a hd hm
    rw [valD_snoc]
    have h1 := ih a (fun j hj => hd j (by omega)) (by omega)
    have h2 := hd m (by omega)
    have h3 := digit_val _ h2
    unfold digitB at h2; simp at h2
    rw [h3, Int.pow_succ]
    omega
set_option maxHeartbeats 2000000 in
set_option maxRecDepth 100000 in
theorem rnumber_any (rb : Nat) (ao : Option Addr) (n cap : Nat) (f : Nat → Int) (a k : Nat) (c p : Int) (w : World) (h : Rs w rb ao n cap f a k c p) (m : Nat) (hm : m ≤ 3) :
    Calls Tryz.prog 115 #[.pointer (some ⟨rb, 0, none⟩), .int .i64 m] w fun e w' => e = .returned (.int .i64 (numV f n m a)) ∧ Rs w' rb ao n cap f (a + cntD digitB f n m a) k c p ∧ Tn rb w w' := by
  have hcl := cntD_le digitB f n m a
  have ha := h.aa
  have hn := h.nn
  have hcc := h.cc
  obtain ⟨b, off, rfl, hb, -⟩ := h.byt
  have HA : Hid (∀ j, j < cntD digitB f n m a → a + j < n ∧ digitB (f (a + j)) = true) := cntD_at digitB f n m a
  have HE : Hid (cntD digitB f n m a < m → ¬ (a + cntD digitB f n m a < n ∧ digitB (f (a + cntD digitB f n m a)) = true)) := cntD_end digitB f n m a
  have HV : Hid (numV f n m a = if cntD digitB f n m a = 0 then -1 else valD 10 f (cntD digitB f n m a) a 0) := rfl
  have HF : Hid (∀ i, 0 ≤ f i ∧ f i ≤ 255) := h.ff
  have HS : Hid (Rs w rb (some ⟨b, off, none⟩) n cap f a k c p) := h
  clear h
  generalize numV f n m a = V at *
  obtain ⟨D, hD⟩ : ∃ D, cntD digitB f n m a = D := ⟨_, rfl⟩
  rw [hD] at hcl ⊢
  have HA : Hid (∀ j, j < D → a + j < n ∧ digitB (f (a + j)) = true) := by rw [← hD]; exact HA
  have HE : Hid (D < m → ¬ (a + D < n ∧ digitB (f (a + D)) = true)) := by rw [← hD]; exact HE
  have HV : Hid (V = if D = 0 then -1 else valD 10 f D a 0) := by rw [← hD]; exact HV
  clear hD
  obtain ⟨hD1, hD2⟩ := hcl
  have hD2 := hD2 ha
  go_enter Tryz.func115, Tryz.ntmps115
  go_wp2
  go_loopw [5, 6] (fun v s wr => ∃ (j : Nat) (x : Int), j ≤ D ∧ s = .int .i64 j ∧ v = .int .i64 x ∧ Hid (x = valD 10 f j a 0) ∧ Hid (Rs wr rb (some ⟨b, off, none⟩) n cap f (a + j) k c p) ∧ Hid (Tn rb w wr))
    (fun _ s _ => m - (intOf s).toNat)
  case atStart => exact ⟨0, 0, Nat.zero_le _, rfl, rfl, rfl, HS, lin.Turns.refl _ _⟩
  case round =>
    obtain ⟨j, x, hj, rfl, rfl, HX, HW, HT⟩ := hrel
    have hxs := valD_small f HF.out j a (fun i hi => (HA.out i (by omega)).2) (by omega)
    rw [← HX.out] at hxs
    have hx2 : x ≤ 1000 := by
      have : (10 : Int) ^ j ≤ 1000 := by rcases (show j = 0 ∨ j = 1 ∨ j = 2 ∨ j = 3 by omega) with rfl | rfl | rfl | rfl <;> decide
      omega
    obtain ⟨hx1, -⟩ := hxs
    obtain ⟨c0, c1, c2, c3, c4, z0, z1, z2, z3, z4⟩ := HW.out.cells
    have R0 := rest_any rb _ n cap f (a + j) k c p wr HW.out
    have RE := fun q => rest_any rb _ n cap f (a + j) k c p (wr.drewN q) (HW.out.drewN q)
    by_cases hlt : j < D
    · have hd := HA.out j hlt
      have hjm : (j : Int) < (m : Int) := by omega
      rw [rA_lt b off (a + j) cap (by omega)] at R0
      have RE : ∀ q, Calls Tryz.prog 44 #[.pointer (some ⟨rb, 0, none⟩)] (wr.drewN q) fun e w' => ∃ q', e = .returned (.slice (some ⟨b, off + (a + j), none⟩) (n - (a + j)) (cap - (a + j))) ∧ w' = (wr.drewN q).drewN q' := fun q => by have := RE q; rw [rA_lt b off (a + j) cap (by omega)] at this; exact this
      obtain ⟨b', off', e', -, hcc'⟩ := HW.out.byt
      cases e'
      have cx := hcc' (a + j) (by omega)
      clear hcc'
      have hdv := digit_val _ hd.2
      have HX2 : Hid (x * 10 + (f (a + j) - 48) = valD 10 f (j + 1) a 0) := by unfold Hid; rw [valD_snoc, ← HX.out, hdv]
      have hdg := hd.2
      unfold digitB at hdg
      simp at hdg
      have DG := fun W => rdigit_any (f (a + j)) W
      rw [hd.2] at DG
      clear hdv hd
      have hpos : 0 < n - (a + j) := by omega
      have hpos2 : (0 : Int) < ((n - (a + j) : Nat) : Int) := by omega
      generalize f (a + j) = y at *
      go_wp2_with fail
      refine R0.mono ?_
      rintro e w1 ⟨q1, rfl, rfl⟩
      go_wp2_with fail
      refine (RE _).mono ?_
      rintro e w1 ⟨q2, rfl, rfl⟩
      rw [World.drewN_drewN]
      go_wp2_with fail
      refine (DG _).mono ?_
      rintro e w1 ⟨rfl, rfl⟩
      go_wp2_with fail
      refine (RE _).mono ?_
      rintro e w1 ⟨q3, rfl, rfl⟩
      rw [World.drewN_drewN]
      have S2 := Rs.put1 (HW.out.drewN (q1 + q2 + q3)) (x := ((a + j : Nat) : Int) + 1) (a' := a + (j + 1)) (by omega) (by omega)
      have T2 := Tn.put (Tn.drewN HT.out (q1 + q2 + q3)) 1 (.int .i64 (((a + j : Nat) : Int) + 1))
      have ecast : ((a + j : Nat) : Int) = (a : Int) + (j : Int) := by omega
      rw [ecast] at S2 T2
      clear R0 RE DG HW HT HX
      have e48 : IntKind.u8.wrap (y - 48) = y - 48 := by rw [IntKind.wrap_u8]; omega
      go_wp2
      exact ⟨⟨j + 1, 10 * x + (y - 48), by omega, rfl, rfl, by unfold Hid; rw [← HX2.out]; omega, S2, T2⟩, by (first | simp [intOf] | simp [Go.RowKit.intOf]); omega⟩
    · obtain rfl : j = D := by omega
      by_cases hjm : j < m
      · have hjm2 : (j : Int) < (m : Int) := by omega
        by_cases han : a + j < n
        · have hnd : digitB (f (a + j)) = false := by
            have := HE.out hjm
            cases hq : digitB (f (a + j)) with
            | false => rfl
            | true => exact absurd ⟨han, hq⟩ this
          rw [rA_lt b off (a + j) cap (by omega)] at R0
          have RE : ∀ q, Calls Tryz.prog 44 #[.pointer (some ⟨rb, 0, none⟩)] (wr.drewN q) fun e w' => ∃ q', e = .returned (.slice (some ⟨b, off + (a + j), none⟩) (n - (a + j)) (cap - (a + j))) ∧ w' = (wr.drewN q).drewN q' := fun q => by have := RE q; rw [rA_lt b off (a + j) cap (by omega)] at this; exact this
          obtain ⟨b', off', e', -, hcc'⟩ := HW.out.byt
          cases e'
          have cx := hcc' (a + j) (by omega)
          clear hcc'
          have DG := fun W => rdigit_any (f (a + j)) W
          rw [hnd] at DG
          have hpos : 0 < n - (a + j) := by omega
          have hpos2 : (0 : Int) < ((n - (a + j) : Nat) : Int) := by omega
          generalize f (a + j) = y at *
          go_wp2_with fail
          refine R0.mono ?_
          rintro e w1 ⟨q1, rfl, rfl⟩
          go_wp2_with fail
          refine (RE _).mono ?_
          rintro e w1 ⟨q2, rfl, rfl⟩
          rw [World.drewN_drewN]
          go_wp2_with fail
          refine (DG _).mono ?_
          rintro e w1 ⟨rfl, rfl⟩
          have SF := HW.out.drewN (q1 + q2)
          have TF := Tn.drewN HT.out (q1 + q2)
          clear R0 RE DG HW HT HE HA
          clear hnd
          rcases (show j = 0 ∨ ¬ j = 0 from by omega) with h0 | h0
          · obtain rfl : V = -1 := by rw [HV.out, if_pos h0]
            subst h0
            go_wp2
            go_ret
            exact ⟨rfl, SF, TF⟩
          · obtain rfl : V = x := by rw [HV.out, if_neg h0, HX.out]
            have h1 : ((j : Int) == 0) = false := by simp; omega
            go_wp2
            go_ret
            exact ⟨rfl, SF, TF⟩
        · have hz : n - (a + j) = 0 := by omega
          rw [hz] at R0
          go_wp2_with fail
          refine R0.mono ?_
          rintro e w1 ⟨q1, rfl, rfl⟩
          have SF := HW.out.drewN q1
          have TF := Tn.drewN HT.out q1
          clear R0 RE HW HT HE HA
          rcases (show j = 0 ∨ ¬ j = 0 from by omega) with h0 | h0
          · obtain rfl : V = -1 := by rw [HV.out, if_pos h0]
            subst h0
            go_wp2
            go_ret
            exact ⟨rfl, SF, TF⟩
          · obtain rfl : V = x := by rw [HV.out, if_neg h0, HX.out]
            have h1 : ((j : Int) == 0) = false := by simp; omega
            go_wp2
            go_ret
            exact ⟨rfl, SF, TF⟩
      · have hjm2 : ¬ (j : Int) < (m : Int) := by omega
        have SF := HW.out
        have TF := HT.out
        clear R0 RE HW HT HE HA
        rcases (show j = 0 ∨ ¬ j = 0 from by omega) with h0 | h0
        · obtain rfl : V = -1 := by rw [HV.out, if_pos h0]
          subst h0
          go_wp2
          go_ret
          exact ⟨rfl, SF, TF⟩
        · obtain rfl : V = x := by rw [HV.out, if_neg h0, HX.out]
          have h1 : ((j : Int) == 0) = false := by simp; omega
          go_wp2
          go_ret
          exact ⟨rfl, SF, TF⟩
end Go.Proofs.YtlgkfnecahgedaaGreatDoor.tok
end
