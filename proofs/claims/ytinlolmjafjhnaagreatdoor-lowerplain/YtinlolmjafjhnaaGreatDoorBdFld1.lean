/- Texts that the proof leans on, one behind the other. -/
import Derived.Test.YtinlolmjafjhnaaGreatDoorBdPrp6
import Derived.Test.YtinlolmjafjhnaaGreatDoorBdRng1
import Derived.Test.YtinlolmjafjhnaaGreatDoorBdPrp7
import Derived.Test.YtinlolmjafjhnaaGreatDoorBdRng5

section
/- Folding, plainly: what a code point folds to, and the closure of a set. -/
set_option linter.unusedVariables false
set_option linter.unusedSimpArgs false
namespace Go.Proofs.YtinlolmjafjhnaaGreatDoor.fld
open Go.Proofs.YtinlolmjafjhnaaGreatDoor.prp (folL inR foldF foldF_first firstF takesB headAdd rcp RL)
open Go.Proofs.YtinlolmjafjhnaaGreatDoor.rng (R has IsSet code CanF inP tot cn)

/-- A code point's simple folding. -/
def sim (r : Int) : Int := (foldF false r).headD 0
def toldB (r : Int) : Bool := folL.any (fun x => inR x r)
def span (a b : Int) : List Int := (List.range (b + 1 - a).toNat).map (fun (i : Nat) => a + (i : Int))
theorem mem_span (a b x : Int) : x ∈ span a b ↔ a ≤ x ∧ x ≤ b := by
 unfold span
 rw [List.mem_map]
 constructor
 ·rintro ⟨i, hi, rfl⟩
  have := List.mem_range.1 hi
  omega
 ·rintro ⟨h1, h2⟩
  exact ⟨(x - a).toNat, List.mem_range.2 (by omega), by omega⟩
theorem span_len (a b : Int) : (span a b).length = (b + 1 - a).toNat := by unfold span; rw [List.length_map, List.length_range]
theorem span_snoc {a p : Int} (h : a ≤ p) : span a p = span a (p - 1) ++ [p] := by
 unfold span
 rw [show (p + 1 - a).toNat = (p - 1 + 1 - a).toNat + 1 by omega, List.range_succ, List.map_append, List.map_cons, List.map_nil, show a + (((p - 1 + 1 - a).toNat : Nat) : Int) = p by omega]
theorem span_nil (a : Int) : span a (a - 1) = [] := by
 unfold span
 rw [show (a - 1 + 1 - a).toNat = 0 by omega]
 rfl
def tpts : List Int := folL.flatMap (fun x => span x.1 x.2.1)
theorem inR_iff (x : RL) (r : Int) : inR x r = true ↔ x.1 ≤ r ∧ r ≤ x.2.1 := by unfold inR; rw [Bool.and_eq_true, decide_eq_true_eq, decide_eq_true_eq]
theorem told_iff (r : Int) : toldB r = true ↔ r ∈ tpts := by
 unfold toldB tpts
 rw [List.any_eq_true, List.mem_flatMap]
 constructor
 ·rintro ⟨x, hx, h⟩
  exact ⟨x, hx, (mem_span _ _ _).2 ((inR_iff _ _).1 h)⟩
 ·rintro ⟨x, hx, h⟩
  exact ⟨x, hx, (inR_iff _ _).2 ((mem_span _ _ _).1 h)⟩
theorem untold {r : Int} (full : Bool) (h : toldB r = false) : foldF full r = [r] := by
 rw [foldF_first]
 have : firstF full folL r = none := by
  unfold firstF
  rw [List.find?_eq_none]
  intro x hx hh
  rw [Bool.and_eq_true] at hh
  have : toldB r = true := by unfold toldB; rw [List.any_eq_true]; exact ⟨x, hx, hh.2⟩
  rw [h] at this
  cases this
 rw [this]
 rfl
theorem sim_untold {r : Int} (h : toldB r = false) : sim r = r := by unfold sim; rw [untold false h]; rfl
def good (r : Int) : Bool := (foldF true r).all (fun x => foldF true x == [x]) && decide (0 < (foldF true r).length) && (foldF false r == [sim r]) && (sim (sim r) == sim r) && code (sim r) && code r
set_option maxRecDepth 1000000 in
theorem tp_good : tpts.all good = true := by decide +kernel
theorem told_good {r : Int} (h : toldB r = true) : good r = true := List.all_eq_true.1 tp_good r ((told_iff r).1 h)
theorem fold_one (r : Int) : foldF false r = [sim r] := by
 cases h : toldB r
 ·rw [untold false h, sim_untold h]
 ·have := told_good h
  unfold good at this
  simp only [Bool.and_eq_true, beq_iff_eq] at this
  exact this.1.1.1.2
theorem told_code {r : Int} (h : toldB r = true) : code r = true ∧ code (sim r) = true := by
 have := told_good h
 unfold good at this
 simp only [Bool.and_eq_true] at this
 exact ⟨this.2, this.1.2⟩
theorem sim_code {r : Int} (h : code r = true) : code (sim r) = true := by
 cases t : toldB r
 ·rw [sim_untold t]; exact h
 ·exact (told_code t).2

/-- r is the set of all code points that fold as one of a does. -/
def IsClo (r a : List R) : Prop := CanF 0 r ∧ ∀ x, code x = true → (has r x = true ↔ ∃ y, has a y = true ∧ sim y = sim x)
/-- The code points of a list of ranges, one by one. -/
def ptsL (l : List R) : List Int := l.flatMap (fun p => span p.1 p.2)
theorem mem_pts (l : List R) (x : Int) : x ∈ ptsL l ↔ ∃ p ∈ l, p.1 ≤ x ∧ x ≤ p.2 := by
 unfold ptsL
 rw [List.mem_flatMap]
 constructor
 ·rintro ⟨p, hp, h⟩; exact ⟨p, hp, (mem_span _ _ _).1 h⟩
 ·rintro ⟨p, hp, h⟩; exact ⟨p, hp, (mem_span _ _ _).2 h⟩
theorem can_in : ∀ {l : List R} {lo : Int}, 0 ≤ lo → CanF lo l → ∀ p ∈ l, 0 ≤ p.1 ∧ p.1 ≤ p.2 ∧ p.2 ≤ 1114111
 | [], _, _, _, p, hp => by cases hp
 | q :: l, lo, h0, h, p, hp => by
  obtain ⟨h1, h2, h3, h4⟩ := h
  rcases List.mem_cons.1 hp with rfl | hp
  ·omega
  ·exact can_in (by omega) h4 p hp
theorem can_pts {l : List R} (h : CanF 0 l) (x : Int) : x ∈ ptsL l ↔ has l x = true := by
 rw [mem_pts, rng.has_iff, rng.code_iff]
 constructor
 ·rintro ⟨p, hp, h1, h2⟩
  have := can_in (Int.le_refl 0) h p hp
  exact ⟨by omega, p, hp, h1, h2⟩
 ·rintro ⟨_, h⟩; exact h
theorem pts_tot : ∀ {l : List R} {lo : Int}, CanF lo l → ((ptsL l).length : Int) = tot l
 | [], _, _ => rfl
 | p :: l, lo, h => by
  obtain ⟨h1, h2, h3, h4⟩ := h
  have := pts_tot h4
  unfold ptsL at *
  rw [List.flatMap_cons, List.length_append, span_len, rng.tot_cons]
  omega
theorem can_len : ∀ {l : List R} {lo : Int}, lo ≤ 1114113 → CanF lo l → 2 * (l.length : Int) ≤ 1114113 - lo
 | [], lo, h, _ => by simp; omega
 | p :: l, lo, h, hc => by
  obtain ⟨h1, h2, h3, h4⟩ := hc
  have := can_len (by omega) h4
  rw [List.length_cons]
  omega
theorem can_len0 {l : List R} (h : CanF 0 l) : l.length ≤ 557056 := by have := can_len (by omega) h; omega
theorem can_tot {l : List R} (h : CanF 0 l) : 0 ≤ tot l ∧ tot l ≤ 1114112 := by
 have h1 := rng.tot_le h
 have : ∀ {l : List R} {lo : Int}, lo ≤ 1114113 → CanF lo l → tot l ≤ 1114113 - lo := by
  intro l
  induction l with
  | nil => intro lo h _; simp [tot]; omega
  | cons p l ih =>
   intro lo h hc
   obtain ⟨h1, h2, h3, h4⟩ := hc
   have := ih (by omega) h4
   rw [rng.tot_cons]
   omega
 have := rng.tot_cn l 0 1114112 (Int.le_refl _) h (by omega)
 have h2 : ∀ (f : Int → Bool) (n : Nat), 0 ≤ cn f n ∧ cn f n ≤ n := by
  intro f n
  induction n with
  | zero => exact ⟨Int.le_refl _, Int.le_refl _⟩
  | succ n ih => rw [cn]; split <;> omega
 have := h2 (has l) 1114112
 omega
theorem pts_len {l : List R} (h : CanF 0 l) : (ptsL l).length ≤ 1114112 := by
 have := pts_tot h
 have := can_tot h
 omega

theorem can_take : ∀ {l : List R} {lo : Int} (k : Nat), CanF lo l → CanF lo (l.take k)
 | [], lo, k, h => by rw [List.take_nil]; exact h
 | p :: l, lo, 0, h => trivial
 | p :: l, lo, k + 1, h => by
  obtain ⟨h1, h2, h3, h4⟩ := h
  rw [List.take_succ_cons]
  exact ⟨h1, h2, h3, can_take k h4⟩
theorem pts_snoc {l : List R} {k : Nat} {p : R} (h : l[k]? = some p) : ptsL (l.take (k + 1)) = ptsL (l.take k) ++ span p.1 p.2 := by
 unfold ptsL
 rw [List.take_add_one, h, List.flatMap_append]
 simp
/-- The ranges of the file's records. -/
def tlR : List R := folL.map (fun x => (x.1, x.2.1))
theorem has_told (x : Int) : has tlR x = toldB x := by
 rw [Bool.eq_iff_iff, rng.has_iff]
 unfold toldB tlR
 rw [List.any_eq_true]
 constructor
 ·rintro ⟨_, p, hp, h⟩
  obtain ⟨y, hy, rfl⟩ := List.mem_map.1 hp
  exact ⟨y, hy, (inR_iff _ _).2 h⟩
 ·rintro ⟨y, hy, h⟩
  have h' := (inR_iff _ _).1 h
  exact ⟨(told_code (r := x) (by unfold toldB; rw [List.any_eq_true]; exact ⟨y, hy, h⟩)).1, _, List.mem_map.2 ⟨y, hy, rfl⟩, h'⟩
theorem isSet_code {r : List R} {f : Int → Bool} (h : IsSet r f) (x : Int) : has r x = true ↔ code x = true ∧ f x = true := by
 rw [h.hasEq x, Bool.and_eq_true]
def one (r : Int) : R := (r, r)
theorem has_ones (l : List Int) (g : Int → Int) (x : Int) : has (l.map (fun r => one (g r))) x = true ↔ code x = true ∧ ∃ r ∈ l, g r = x := by
 rw [rng.has_iff]
 refine and_congr_right fun _ => ?_
 constructor
 ·rintro ⟨p, hp, h1, h2⟩
  obtain ⟨r, hr, rfl⟩ := List.mem_map.1 hp
  exact ⟨r, hr, by unfold one at h1 h2; simp only at h1 h2; omega⟩
 ·rintro ⟨r, hr, rfl⟩
  exact ⟨_, List.mem_map.2 ⟨r, hr, rfl⟩, Int.le_refl _, Int.le_refl _⟩
/-- The program's way. -/
theorem clo_prog {a T M m0 f1 o res : List R} (hT : IsSet T (has tlR)) (hM : IsSet M (fun x => has a x && has T x)) (h0 : IsSet m0 (fun x => has a x && !has T x))
  (h1 : IsSet f1 (has (m0 ++ (ptsL M).map (fun r => one (sim r))))) (ho : IsSet o (fun x => has f1 x && !has T x))
  (hr : IsSet res (has (o ++ ((ptsL T).filter (fun r => has f1 (sim r))).map one))) : IsClo res a := by
 have tT : ∀ x, has T x = toldB x := fun x => by
  rw [hT.hasEq x, has_told]
  cases t : toldB x
  ·rw [Bool.and_false]
  ·rw [(told_code t).1]; rfl
 have F : ∀ x, has f1 x = true ↔ ∃ r, has a r = true ∧ sim r = x := fun x => by
  rw [isSet_code h1, rng.has_append, Bool.or_eq_true, isSet_code h0, has_ones, tT]
  constructor
  ·rintro ⟨hc, ⟨_, h⟩ | ⟨_, r, hr, rfl⟩⟩
   ·rw [Bool.and_eq_true, Bool.not_eq_true'] at h
    exact ⟨x, h.1, sim_untold h.2⟩
   ·rw [can_pts hM.1, isSet_code hM, Bool.and_eq_true] at hr
    exact ⟨r, hr.2.1, rfl⟩
  ·rintro ⟨r, hr, rfl⟩
   have hc := rng.has_code hr
   refine ⟨sim_code hc, ?_⟩
   cases t : toldB r
   ·rw [sim_untold t, t]
    exact .inl ⟨hc, by rw [hr]; rfl⟩
   ·refine .inr ⟨sim_code hc, r, ?_, rfl⟩
    rw [can_pts hM.1, isSet_code hM, tT, hr, t]
    exact ⟨hc, rfl⟩
 refine ⟨hr.1, fun x hx => ?_⟩
 have e1 : has (((ptsL T).filter (fun r => has f1 (sim r))).map one) x = true ↔ code x = true ∧ ∃ r ∈ (ptsL T).filter (fun r => has f1 (sim r)), r = x := has_ones _ (fun r => r) x
 rw [isSet_code hr, rng.has_append, Bool.or_eq_true, isSet_code ho, e1, tT, ← F]
 constructor
 ·rintro ⟨_, ⟨_, h⟩ | ⟨_, r, hr, rfl⟩⟩
  ·rw [Bool.and_eq_true, Bool.not_eq_true'] at h
   rw [sim_untold h.2]
   exact h.1
  ·exact (List.mem_filter.1 hr).2
 ·intro h
  refine ⟨hx, ?_⟩
  cases t : toldB x
  ·rw [sim_untold t] at h
   exact .inl ⟨hx, by rw [h]; rfl⟩
  ·exact .inr ⟨hx, x, List.mem_filter.2 ⟨by rw [can_pts hT.1, tT]; exact t, h⟩, rfl⟩

/-- What the document's side calls touched. -/
def tch (r : Int) : List Int := if sim r = r then [r] else [r, sim r]
def touched : List Int := tpts.flatMap tch
def simT : List Int := tpts.map sim
/-- How often a folding stands in a list. -/
def few (l : List Int) : Bool := l.all (fun s => decide ((l.filter (fun t => t == s)).length ≤ 15))
end Go.Proofs.YtinlolmjafjhnaaGreatDoor.fld
end

section
/- fold.Simple, Full, Same on tables that Load made, and on tables that no call made; the document's ones. -/
set_option linter.unusedVariables false
set_option linter.unusedSimpArgs false
namespace Go.Proofs.YtinlolmjafjhnaaGreatDoor.fld
open Go.RowKit Go.Maps
open Go.Proofs.YtinlolmjafjhnaaGreatDoor.lin Go.Proofs.YtinlolmjafjhnaaGreatDoor.prp

theorem cat_zero : sF [67, 110] catL 0 = [67, 99] := by decide +kernel
set_option maxRecDepth 1000000 in
theorem fmade_t (t : Nat) (w : World) (h : Tabs w t) : Calls Tryz.prog 137 #[.pointer (some ⟨t, 0, none⟩)] w fun e w' => e = .returned (.bool true) ∧ Below w.heap.size w w' := by
 have C := category_t t 0 w h
 rw [cat_zero] at C
 have hq : (BA [67, 99]).toList = [67, 99] := by rw [Lib.toList_data, BA_data]
 clear h
 go_enter Tryz.func137, Tryz.ntmps137
 go_wp2_with fail
 refine C.mono ?_
 rintro e w1 ⟨rfl, hb⟩
 clear C
 go_wp2
 go_ret
 exact ⟨rfl, hb⟩
theorem iv_one {w : World} {v : Value} {x : Int} (h : IV w v [x]) : ∃ b o c, v = .slice (some ⟨b, o, none⟩) 1 c ∧ w.cell? ⟨b, o, none⟩ = some (.int .i64 x) := by
 obtain ⟨a, c, rfl, hv⟩ := h
 obtain ⟨b, o, rfl, hc⟩ := hv (Nat.zero_lt_one)
 exact ⟨b, o, c, rfl, hc 0 Nat.zero_lt_one⟩
set_option maxRecDepth 1000000 in
theorem simple_t (t : Nat) (r : Int) (w : World) (h : Tabs w t) (hr : okI r) : Calls Tryz.prog 143 #[.pointer (some ⟨t, 0, none⟩), .int .i64 r] w fun e w' => e = .returned (.int .i64 (sim r)) ∧ Below w.heap.size w w' := by
 have C := fold_false t r w h hr
 rw [fold_one] at C
 clear h hr
 generalize sim r = s at *
 go_enter Tryz.func143, Tryz.ntmps143
 go_wp2_with fail
 refine C.mono ?_
 rintro e w1 ⟨v, rfl, ho, hb⟩
 obtain ⟨b, o, c, rfl, hc⟩ := iv_one ho.iv
 clear C ho
 go_wp2
 go_ret
 exact ⟨rfl, hb⟩
set_option maxRecDepth 1000000 in
theorem full_t (t : Nat) (r : Int) (w : World) (h : Tabs w t) (hr : okI r) : Calls Tryz.prog 108 #[.pointer (some ⟨t, 0, none⟩), .int .i64 r] w fun e w' => ∃ v, e = .returned v ∧ IOwn w' w.heap.size v (foldF true r) ∧ Below w.heap.size w w' := by
 have C := fold_true t r w h hr
 clear h hr
 generalize foldF true r = F at *
 go_enter Tryz.func108, Tryz.ntmps108
 go_wp2_with fail
 refine C.mono ?_
 rintro e w1 ⟨v, rfl, ho, hb⟩
 obtain ⟨va, vc, rfl⟩ := own_slice ho
 have H : Hid (IOwn w1 w.heap.size (.slice va F.length vc) F) := ho
 clear C ho
 generalize F.length = n at *
 go_wp2
 go_ret
 exact ⟨_, rfl, H.out, hb⟩
end Go.Proofs.YtinlolmjafjhnaaGreatDoor.fld
end

section
/- fold.one, fold.points, fold.toldOf. -/
set_option linter.unusedVariables false
set_option linter.unusedSimpArgs false
namespace Go.Proofs.YtinlolmjafjhnaaGreatDoor.fld
open Go.RowKit Go.Maps
open Go.Proofs.YtinlolmjafjhnaaGreatDoor.lin Go.Proofs.YtinlolmjafjhnaaGreatDoor.prp
open Go.Proofs.YtinlolmjafjhnaaGreatDoor.rng (R has IsSet Sl code CanF)

/-- A row of numbers lies apart from a block of another type. -/
theorem row_ne {w : World} {B e size n : Nat} {v : Value} {xs : List Value} {b : Nat} {cs : Array Value} {e' : TypeId} {fz : Nat × Nat} (h : w.ownsRow B e size v n xs) (hb : w.heap[b]? = some (.cells cs e' fz)) (hne : e ≠ e') : v.ownBlock ≠ some b := by
 intro hv
 rcases h.2 with ⟨rfl, _⟩ | ⟨g, cap, cur, rfl, _, hg, _⟩
 ·cases hv
 ·cases hv
  rw [show (⟨g, 0, none⟩ : Addr).block = g from rfl] at hb
  rw [hg] at hb
  injection hb with hb
  injection hb with h1 h2
  exact hne h2
theorem two_cells (w : World) (x y : Value) (t : TypeId) : ∀ (j : Nat) (u : Value), [x, y][j]? = some u → (w.alloc (Obj.cells #[x, y] t)).cell? ((⟨w.heap.size, 0, none⟩ : Addr).add j) = some u := by
 intro j u hj
 match j, hj with
 | 0, hj => simpa [Addr.add_lit] using hj
 | 1, hj => simpa [Addr.add_lit] using hj
theorem two_one (x y : Int) : ∀ u ∈ [Value.int .i64 x, Value.int .i64 y], u.oneCell' = true := by
 intro u hu
 simp only [List.mem_cons, List.mem_nil_iff, or_false] at hu
 rcases hu with rfl | rfl <;> rfl
theorem own_snoc {w : World} {B : Nat} {v : Value} {l : List R} {p : R} (h : w.ownsRow B 66 2 v (l.length + 1) (rng.flat l ++ [.int .i64 p.1, .int .i64 p.2])) : rng.Own w B v (l ++ [p]) := by
 unfold rng.Own
 rw [List.length_append, rng.flat_append]
 exact h
theorem io_snoc {w : World} {B : Nat} {v : Value} {l : List Int} {x : Int} (h : w.ownsRow B 3 1 v (l.length + 1) (l.map (Value.int .i64) ++ [.int .i64 x])) : IOwn w B v (l ++ [x]) := by
 unfold IOwn
 rw [List.length_append, List.map_append]
 exact h
theorem grow_block {W w5 : World} {o : Obj} {row : Option Nat} {b : Nat} {x : Obj} (hg : (W.alloc o).grownBy w5 row) (hb : W.heap[b]? = some x) (hne : row ≠ some b) : w5.heap[b]? = some x := by
 have hl := (Array.getElem?_eq_some_iff.1 hb).1
 exact (hg.block b (by simp; omega) (fun e => hne e.symm)).trans ((Below.heap_alloc _ _ _ hl).trans hb)

set_option maxRecDepth 1000000 in
theorem one_any (r : Int) (w : World) : Calls Tryz.prog 142 #[.int .i64 r] w fun e w' => e = .returned (.agg #[.int .i64 r, .int .i64 r]) ∧ Below w.heap.size w w' := by
 go_enter Tryz.func142, Tryz.ntmps142
 go_wp2
 refine bodyPost_ret (v := .agg #[.int .i64 r, .int .i64 r]) (by simp [results, Tryz.results142, go_sem]) rfl ⟨rfl, ?_⟩
 exact (Below.refl _ w).alloc (Nat.le_refl _) _

set_option maxHeartbeats 4000000 in
set_option maxRecDepth 1000000 in
theorem points_any (v : Value) (l : List R) (w : World) (hs : Sl w v l) (hc : CanF 0 l) :
  Calls Tryz.prog 140 #[v] w fun e w' => ∃ v', e = .returned v' ∧ IOwn w' w.heap.size v' (ptsL l) ∧ Below w.heap.size w w' := by
 obtain ⟨i0, hi, hz0, hy1, hz2⟩ := info_parts infoInt
 obtain ⟨ao, cap, rfl, hv, _⟩ := hs
 have HC : Hid (∀ k, k < l.length → ∃ (lo hi : Int) (b o : Nat), ao = some ⟨b, o, none⟩ ∧ w.cell? ⟨b, o + k * 2, none⟩ = some (.int .i64 lo) ∧ w.cell? ⟨b, o + k * 2 + 1, none⟩ = some (.int .i64 hi) ∧ 0 ≤ lo ∧ lo ≤ hi ∧ hi ≤ 1114111 ∧ ptsL (l.take (k + 1)) = ptsL (l.take k) ++ span lo hi ∧ (ptsL (l.take k)).length + (hi + 1 - lo).toNat ≤ 1114112) := fun k hk => by
  obtain ⟨b, o, e, hcell⟩ := hv.some (by omega)
  have hkk := List.getElem?_eq_getElem hk
  obtain ⟨c1, c2⟩ := hcell k _ hkk
  obtain ⟨r1, r2, r3⟩ := can_in (Int.le_refl 0) hc _ (List.getElem_mem hk)
  have e1 := pts_snoc hkk
  refine ⟨_, _, b, o, e, c1, c2, r1, r2, r3, e1, ?_⟩
  have := pts_len (can_take (k + 1) hc)
  rw [e1, List.length_append, span_len] at this
  exact this
 have hln : l.length ≤ 557056 := can_len0 hc
 have HALL : Hid (ptsL (l.take l.length) = ptsL l) := by rw [List.take_length]; rfl
 clear hv hc
 generalize hnl : l.length = nl at *
 clear hnl
 go_enter Tryz.func140, Tryz.ntmps140
 go_wp2
 go_loopw [3, 9] (fun v i wr => ∃ k : Nat, k ≤ nl ∧ i = .int .i64 k ∧ Hid (IOwn wr w.heap.size v (ptsL (l.take k))) ∧ Hid (Below w.heap.size w wr)) (fun _ i _ => nl - (RowKit.intOf i).toNat)
 case atStart => exact ⟨0, Nat.zero_le _, rfl, World.ownsRow_nil _ _ _ _, Below.refl _ _⟩
 case round =>
  obtain ⟨k, hk, rfl, HO, HB⟩ := hrel
  by_cases hlt : k < nl
  ·have hlt' : (k : Int) < (nl : Int) := by omega
   obtain ⟨lo, hi', b, o, rfl, c0, c1, r1, r2, r3, hpt, hpl⟩ := HC.out k hlt
   have d0 := cell_below HB.out c0
   have d1 := cell_below HB.out c1
   have hsz := HB.out.size
   have HPT : Hid (ptsL (l.take (k + 1)) = ptsL (l.take k) ++ span lo hi') := hpt
   have HOA : Hid (∀ x, IOwn (wr.alloc x) w.heap.size u3 (ptsL (l.take k))) := fun x => World.ownsRow.alloc HO.out x
   have HBA : Hid (∀ x, Below w.heap.size w (wr.alloc x)) := fun x => HB.out.alloc hsz x
   have HNW : Hid ((wr.alloc (.cells #[.int .i64 lo, .int .i64 hi'] 66)).heap[wr.heap.size]? = some (.cells #[.int .i64 lo, .int .i64 hi'] 66 (0, 0))) := World.alloc_heap_new _ _
   clear HO HB hpt c0 c1
   generalize ptsL (l.take k) = AL at *
   go_wp2
   clear d0 d1
   generalize wr.heap.size = rb at *
   go_loopw [3, 6] (fun u x wz => ∃ p : Int, lo ≤ p ∧ p ≤ hi' + 1 ∧ x = .int .i64 p ∧ Hid (IOwn wz w.heap.size u (AL ++ span lo (p - 1))) ∧ Hid (Below w.heap.size w wz) ∧ Hid (wz.heap[rb]? = some (.cells #[.int .i64 lo, .int .i64 hi'] 66 (0, 0)))) (fun _ x _ => (hi' + 1 - RowKit.intOf x).toNat)
   case atStart => exact ⟨lo, by omega, by omega, rfl, by rw [span_nil, List.append_nil]; exact HOA.out _, HBA.out _, HNW.out⟩
   case round =>
    clear HOA HBA HNW
    obtain ⟨p, hp1, hp2, rfl, HO, HB, HX⟩ := hrel
    have x1 := cell_of_row wr rb 1 _ _ _ HX.out
    simp at x1
    by_cases hpi : p ≤ hi'
    ·obtain ⟨ya, yc, rfl⟩ := own_slice HO.out
     have hne := row_ne HO.out HX.out (by decide)
     have HNE : Hid ((Value.slice ya (AL ++ span lo (p - 1)).length yc).ownBlock ≠ some rb) := hne
     have hsp : (AL ++ span lo (p - 1)).length ≤ 1114112 := by rw [List.length_append, span_len]; omega
     have HSN : Hid (AL ++ span lo p = (AL ++ span lo (p - 1)) ++ [p]) := by unfold Hid; rw [span_snoc hp1, List.append_assoc]
     have hs1 := HB.out.size
     have wp1 : IntKind.i64.wrap (p + 1) = p + 1 := by rw [IntKind.wrap_i64]; omega
     clear hne
     generalize AL ++ span lo (p - 1) = BL at *
     go_wp2_with (at_builtin; refine wpList_append_own _ rfl _ _ 37 rfl w.heap.size 3 i0 (.int .i64 0) 1 8 Tryz.underlying37 hi hz0 hy1 hz2 rfl (by decide) _ _ _ rfl (HO.out.alloc _) ⟨wr.heap.size, 0, none⟩ 1 1 [.int .i64 p] rfl rfl (cell_one_new _ _ _) ?c2 ?c3 ?c4 ?c5 ?_)
     case c2 => first | (intro u hu; simp at hu; subst hu; rfl) | simp [Value.oneCell']
     case c3 => unfold maxLen; omega
     case c4 => omega
     case c5 => first | omega | (simp; omega)
     intro v' w5 hown5 hgrow _
     have R2 : Hid (Below w.heap.size w w5) := Below.grown (HB.out.alloc hs1 _) hgrow (by simp; omega) (fun k e => (HO.out.lt k e).1)
     have R1 : Hid (IOwn w5 w.heap.size v' (AL ++ span lo (p + 1 - 1))) := by
      unfold Hid
      rw [show p + 1 - 1 = p by omega, HSN.out]
      exact io_snoc hown5
     have R3 : Hid (w5.heap[rb]? = some (.cells #[.int .i64 lo, .int .i64 hi'] 66 (0, 0))) := grow_block hgrow HX.out HNE.out
     obtain ⟨xa', xc', rfl⟩ := own_slice hown5
     clear hown5 hgrow HO HB HX HNE HSN
     go_wp2
     exact ⟨⟨p + 1, by omega, by omega, rfl, R1, R2, R3⟩, by simp [RowKit.intOf]; omega⟩
    ·obtain rfl : p = hi' + 1 := by omega
     have R1 : Hid (IOwn wr w.heap.size u3 (ptsL (l.take (k + 1)))) := by
      unfold Hid
      rw [HPT.out]
      have := HO.out
      rw [show hi' + 1 - 1 = hi' by omega] at this
      exact this
     clear HO HX
     go_wp2
     exact ⟨⟨k + 1, by omega, by go_num, R1, HB⟩, by simp [RowKit.intOf]; omega⟩
  ·obtain rfl : k = nl := by omega
   have hlt' : ¬ (k : Int) < (k : Int) := by omega
   have R1 : Hid (IOwn wr w.heap.size u3 (ptsL l)) := by
    have h1 := HO.out
    rw [HALL.out] at h1
    exact h1
   clear HO
   go_wp2
   go_ret
   exact ⟨_, rfl, R1.out, HB.out⟩
end Go.Proofs.YtinlolmjafjhnaaGreatDoor.fld
end

section
/- fold.toldOf: the set of the code points of the file's records. -/
set_option linter.unusedVariables false
set_option linter.unusedSimpArgs false
namespace Go.Proofs.YtinlolmjafjhnaaGreatDoor.fld
open Go.RowKit Go.Maps
open Go.Proofs.YtinlolmjafjhnaaGreatDoor.lin Go.Proofs.YtinlolmjafjhnaaGreatDoor.prp
open Go.Proofs.YtinlolmjafjhnaaGreatDoor.rng (R has IsSet Sl code CanF)

theorem tl_take {k : Nat} {x : RL} (h : folL[k]? = some x) : tlR.take (k + 1) = tlR.take k ++ [(x.1, x.2.1)] := by
 unfold tlR
 rw [List.take_add_one, List.getElem?_map, h]
 rfl
theorem tl_len : tlR.length = folL.length := by unfold tlR; rw [List.length_map]
set_option maxHeartbeats 4000000 in
set_option maxRecDepth 1000000 in
theorem told_any (w : World) (E : Env w) :
  Calls Tryz.prog 138 #[] w fun e w' => ∃ v T, e = .returned v ∧ Sl w' v T ∧ IsSet T (has tlR) ∧ Below w.heap.size w w' := by
 obtain ⟨i0, hi, hz0, hz1, hz2⟩ := rng.info_parts rng.infoRange
 obtain ⟨m, hm⟩ := E.ml
 have C1 := fol_any w
 have C2 := parse_any folB w m (by have := fol_size; omega) hm (World.block_lt_of_cell? w _ hm)
 rw [fol_parse] at C2
 clear hm E
 generalize hrf : folB = fB at *
 clear hrf
 go_enter Tryz.func138, Tryz.ntmps138
 go_wp2_with fail
 refine C1.mono ?_
 rintro e w0 ⟨rfl, hw0⟩
 rw [hw0]
 clear C1 hw0 w0
 go_wp2_with fail
 refine C2.mono ?_
 rintro e w1 ⟨v, rfl, hr, b1⟩
 clear C2
 obtain ⟨rb, ro, rc, rfl, hrec⟩ := view_recs hr.seen fol_n.1
 have HREC : Hid (∀ (i : Nat) (r : RL), folL[i]? = some r → ∃ g o2 c2, RecM w1 rb (ro + i * 3) r g o2 c2) := hrec
 have HN : Hid (∀ k, k < folL.length → ∃ x, folL[k]? = some x) := fun k hk => ⟨_, List.getElem?_eq_getElem hk⟩
 have HTK : Hid (∀ (k : Nat) (x : RL), folL[k]? = some x → tlR.take (k + 1) = tlR.take k ++ [(x.1, x.2.1)]) := fun k x h => tl_take h
 have HTL : Hid (∀ k, (tlR.take k).length ≤ k) := fun k => by rw [List.length_take]; omega
 have HALL : Hid (tlR.take folL.length = tlR) := by rw [← tl_len]; exact List.take_length
 have hn1 : folL.length ≤ 1000 := fol_n.2
 have HB1 : Hid (Below w.heap.size w w1) := b1
 clear hr hrec b1
 generalize folL.length = n at *
 go_wp2
 go_loopw [4, 15] (fun v i wr => ∃ k : Nat, k ≤ n ∧ i = .int .i64 k ∧ Hid (rng.Own wr w1.heap.size v (tlR.take k)) ∧ Hid (Below w1.heap.size w1 wr)) (fun _ i _ => n - (RowKit.intOf i).toNat)
 case atStart => exact ⟨0, Nat.zero_le _, rfl, World.ownsRow_nil _ _ _ _, Below.refl _ _⟩
 case round =>
  obtain ⟨k, hk, rfl, HO, HB⟩ := hrel
  by_cases hlt : k < n
  ·have hlt' : (k : Int) < (n : Int) := by omega
   obtain ⟨x, hx⟩ := HN.out k hlt
   obtain ⟨fg, fo, fc, hrm0⟩ := HREC.out k x hx
   have hrm := hrm0.below HB.out
   have q0 := hrm.lo
   have q1 := hrm.hi
   have q2 := hrm.fv
   have hk2 := HTK.out k x hx
   have hfl := HTL.out k
   obtain ⟨ya, yc, rfl⟩ := own_slice HO.out
   obtain ⟨lo, hi', fs⟩ := x
   simp only at q0 q1 q2 hk2
   have HKK : Hid (tlR.take (k + 1) = tlR.take k ++ [(lo, hi')]) := hk2
   have hsz := HB.out.size
   have HO2 : Hid (∀ x y, (((wr.alloc x).alloc y)).ownsRow w1.heap.size 66 2 (.slice ya (tlR.take k).length yc) (tlR.take k).length (rng.flat (tlR.take k))) := fun x y => World.ownsRow.alloc (World.ownsRow.alloc HO.out x) y
   clear hrm hrm0 hx hk2
   generalize tlR.take k = TL at *
   generalize fs.length = n3 at *
   go_wp2_with (at_builtin; refine wpList_append_own _ rfl _ _ 22 rfl w1.heap.size 66 i0 (.agg #[.int .i64 0, .int .i64 0]) 2 16 Tryz.underlying22 hi hz0 hz1 hz2 rfl (by decide) _ _ _ rfl (HO2.out _ _) ⟨wr.heap.size + 1, 0, none⟩ 1 1 [.int .i64 lo, .int .i64 hi'] rfl rfl (rng.two_new _ _ _ _ _) (two_one _ _) ?c3 ?c4 ?c5 ?_)
   case c3 => unfold maxLen; omega
   case c4 => omega
   case c5 => first | omega | (simp; omega)
   intro v' w5 hown5 hgrow _
   have R2 : Hid (Below w1.heap.size w1 w5) := Below.grown ((HB.out.alloc hsz _).alloc (by simp; omega) _) hgrow (by simp; omega) (fun k e => (HO.out.lt k e).1)
   have R1 : Hid (rng.Own w5 w1.heap.size v' (tlR.take (k + 1))) := by
    unfold Hid
    rw [HKK.out]
    exact own_snoc (p := (lo, hi')) hown5
   obtain ⟨xa', xc', rfl⟩ := own_slice hown5
   clear hown5 hgrow HO HB HO2 HKK
   go_wp2
   go_roundw
   case rel => exact ⟨k + 1, by omega, by go_num, R1, R2⟩
   case measure => simp [RowKit.intOf]; omega
  ·obtain rfl : k = n := by omega
   have hlt' : ¬ (k : Int) < (k : Int) := by omega
   have hfl := HTL.out k
   have HS := HO.out.sl
   rw [HALL.out] at HS hfl
   have C := rng.make_s _ tlR wr HS (by omega)
   have HB9 : Hid (Below w.heap.size w wr) := HB1.out.trans (HB.out.mono HB1.out.size)
   obtain ⟨ya, yc, rfl, _⟩ := HS
   clear HO HB HB1
   generalize tlR.length = tn at *
   go_wp2_with fail
   refine C.mono ?_
   rintro e w9 ⟨v9, T, rfl, hs9, hT, b9⟩
   clear C
   obtain ⟨za, zc, rfl, _⟩ := id hs9
   have HS9 : Hid (Sl w9 (.slice za T.length zc) T) := hs9
   clear hs9
   generalize T.length = Tn at *
   go_wp2
   go_ret
   exact ⟨_, T, rfl, HS9.out, hT, HB9.out.trans (b9.mono HB9.out.size)⟩
end Go.Proofs.YtinlolmjafjhnaaGreatDoor.fld
end

section
/- fold.Closure. -/
set_option linter.unusedVariables false
set_option linter.unusedSimpArgs false
namespace Go.Proofs.YtinlolmjafjhnaaGreatDoor.fld
open Go.RowKit Go.Maps
open Go.Proofs.YtinlolmjafjhnaaGreatDoor.lin Go.Proofs.YtinlolmjafjhnaaGreatDoor.prp
open Go.Proofs.YtinlolmjafjhnaaGreatDoor.rng (R has IsSet Sl code CanF)

/-- A row of numbers that is read in a loop: its value at a place. -/
theorem io_at {w : World} {B : Nat} {v : Value} {l : List Int} (h : IOwn w B v l) : ∃ a c, v = .slice a l.length c ∧ ∀ k, k < l.length → ∃ x b, a = some ⟨b, 0, none⟩ ∧ w.cell? ⟨b, k, none⟩ = some (.int .i64 x) ∧ l[k]? = some x := by
 rcases h.2 with ⟨rfl, h0⟩ | ⟨g, cap, cur, rfl, _⟩
 ·exact ⟨none, 0, by rw [h0], fun k hk => by omega⟩
 ·refine ⟨_, cap, rfl, fun k hk => ⟨l[k], g, rfl, ?_, List.getElem?_eq_getElem hk⟩⟩
  have h' : w.ownsRow B 3 1 (.slice (some ⟨g, 0, none⟩) l.length cap) l.length (l.map (Value.int .i64)) := h
  rw [h'.cellAt k (by omega), List.getElem?_map, List.getElem?_eq_getElem hk]
  rfl
theorem code_ok {r : Int} (h : code r = true) : okI r := by have := (rng.code_iff r).1 h; unfold okI; omega
theorem set_len {r : List R} {f : Int → Bool} (h : IsSet r f) : r.length ≤ 557056 := can_len0 h.1
theorem take_snoc {α : Type} {l : List α} {k : Nat} {x : α} (h : l[k]? = some x) : l.take (k + 1) = l.take k ++ [x] := by rw [List.take_add_one, h]; rfl
set_option maxHeartbeats 8000000 in
set_option maxRecDepth 1000000 in
theorem closure_o (t : Nat) (v : Value) (a : List R) (w : World) (h : Tabs w t) (E : Env w) (hs : Sl w v a) (hn : a.length ≤ 1000000) :
  Calls Tryz.prog 98 #[.pointer (some ⟨t, 0, none⟩), v] w fun e w' => ∃ v' r, e = .returned v' ∧ rng.Own w' w.heap.size v' r ∧ IsClo r a ∧ Below w.heap.size w w' := by
 obtain ⟨i0, hi, hz0, hz1, hz2⟩ := rng.info_parts rng.infoRange
 have HT : Hid (Tabs w t) := h
 have HE : Hid (Env w) := E
 have HS : Hid (Sl w v a) := hs
 have C := fmade_t t w h
 obtain ⟨va, vc, rfl, _⟩ := hs
 clear h E
 obtain ⟨an, ha⟩ : ∃ n, n = a.length := ⟨_, rfl⟩
 have HAN : Hid (an = a.length) := ha
 rw [← ha] at hn HS ⊢
 clear ha
 go_enter Tryz.func98, Tryz.ntmps98
 go_wp2_with fail
 refine C.mono ?_
 rintro e w1 ⟨rfl, b1⟩
 clear C
 have C := told_any w1 (HE.out.below b1)
 go_wp2_with fail
 refine C.mono ?_
 rintro e w2 ⟨v2, T, rfl, s2, hT, b2⟩
 clear C
 have HB2 : Hid (Below w.heap.size w w2) := b1.trans (b2.mono b1.size)
 have HSA : Hid (Sl w2 (.slice va an vc) a) := HS.out.below HB2.out
 have HIT : Hid (IsSet T (has tlR)) := hT
 have HST : Hid (Sl w2 v2 T) := s2
 have HTL : Hid (T.length ≤ 557056) := set_len hT
 clear b1 b2 HS hT
 obtain ⟨ta, tc, rfl, kT, _⟩ := s2
 obtain ⟨a', c', e', kA, _⟩ := HSA.out
 injection e' with e1 e2 e3
 subst e1 e3
 clear e2
 have C := rng.minus_any va ta vc tc a T w2 (by rw [← HAN.out]; exact hn) (by have := HTL.out; omega) kA kT
 rw [← HAN.out] at C
 generalize hTn : T.length = Tn at *
 have HTn : Hid (T.length = Tn) := hTn
 clear hTn
 go_wp2_with fail
 refine C.mono ?_
 rintro e w3 ⟨v3, m0, rfl, o3, hm0, b3⟩
 clear C
 have HM0 : Hid (IsSet m0 (fun x => has a x && !has T x)) := hm0
 have hml : m0.length ≤ 557056 := set_len hm0
 have C := rng.meet_any va ta vc tc a T w3 (by rw [← HAN.out]; exact hn) (by have := HTL.out; have := HTn.out; omega) (kA.below b3) (kT.below b3)
 rw [← HAN.out, HTn.out] at C
 obtain ⟨m0a, m0c, hv3⟩ := own_slice o3
 subst hv3
 have HO3 : Hid (rng.Own w3 w2.heap.size (.slice m0a m0.length m0c) m0) := o3
 have HB3 : Hid (Below w2.heap.size w2 w3) := b3
 clear hm0 o3 b3 kA kT
 generalize hmn : m0.length = mn at *
 have HMN : Hid (m0.length = mn) := hmn
 clear hmn
 go_wp2_with fail
 refine C.mono ?_
 rintro e w4 ⟨v4, M, rfl, o4, hM, b4⟩
 clear C
 have HM : Hid (IsSet M (fun x => has a x && has T x)) := hM
 have C := points_any v4 M w4 o4.sl hM.1
 obtain ⟨Ma, Mc, hv4⟩ := own_slice o4
 subst hv4
 generalize hMn : M.length = Mn at *
 clear hMn o4
 have HPL : Hid ((ptsL M).length ≤ 1114112) := pts_len hM.1
 have HPC : Hid (∀ r ∈ ptsL M, okI r) := fun r hr => code_ok (rng.has_code ((can_pts hM.1 r).1 hr))
 clear hM
 go_wp2_with fail
 refine C.mono ?_
 rintro e w5 ⟨v5, rfl, o5, b5⟩
 clear C
 have B45 : Below w3.heap.size w3 w5 := b4.trans (b5.mono b4.size)
 have HB5 : Hid (Below w2.heap.size w2 w5) := HB3.out.trans (B45.mono HB3.out.size)
 have HO5 : Hid (rng.Own w5 w2.heap.size (.slice m0a mn m0c) m0) := HO3.out.below B45
 have HP5 : Hid (IOwn w5 w2.heap.size v5 (ptsL M)) := rng.own_mono o5 (by have := HB3.out.size; have := b4.size; omega)
 obtain ⟨pa, pc, hv5⟩ := own_slice o5
 subst hv5
 clear b4 b5 B45 HO3 HB3 o5
 obtain ⟨P, hP⟩ : ∃ P, P = ptsL M := ⟨_, rfl⟩
 have HPM : Hid (P = ptsL M) := hP
 rw [← hP] at HPL HPC HP5 ⊢
 clear hP
 generalize hPn : P.length = Pn at *
 have HPn : Hid (P.length = Pn) := hPn
 have hpl : Pn ≤ 1114112 := HPL.out
 clear hPn HPL
 go_wp2
 go_loopw [6, 24] (fun u i wr => ∃ k : Nat, k ≤ Pn ∧ i = .int .i64 k ∧ Hid (rng.Own wr w2.heap.size u (m0 ++ (P.take k).map (fun r => one (sim r)))) ∧ Hid (IOwn wr w2.heap.size (.slice pa Pn pc) P) ∧ Hid (Below w2.heap.size w2 wr)) (fun _ i _ => Pn - (RowKit.intOf i).toNat)
 case atStart => exact ⟨0, Nat.zero_le _, rfl, by unfold Hid; rw [List.take_zero, List.map_nil, List.append_nil]; exact HO5.out, HP5, HB5⟩
 case round =>
  clear HO5 HP5 HB5
  obtain ⟨k, hk, rfl, HO, HP, HB⟩ := hrel
  by_cases hlt : k < Pn
  ·have hlt' : (k : Int) < (Pn : Int) := by omega
   obtain ⟨a1, c1, e1, hat⟩ := io_at HP.out
   obtain ⟨r, b, ha1, hc, hr⟩ := hat k (by rw [HPn.out]; exact hlt)
   injection e1 with e1 e2 e3
   subst e1 ha1 e3
   have hro := HPC.out r (List.mem_of_getElem? hr)
   have HTK : Hid (m0 ++ (P.take (k + 1)).map (fun r => one (sim r)) = (m0 ++ (P.take k).map (fun r => one (sim r))) ++ [one (sim r)]) := by
    unfold Hid; rw [take_snoc hr, List.map_append, ← List.append_assoc]; rfl
   have C := simple_t t r wr (HT.out.below (HB2.out.trans (HB.out.mono HB2.out.size))) hro
   have hll : (m0 ++ (P.take k).map (fun r => one (sim r))).length ≤ 1671168 := by
    rw [List.length_append, List.length_map, List.length_take, HMN.out]; omega
   clear hat e2 hr
   generalize hFL : m0 ++ (P.take k).map (fun r => one (sim r)) = FL at *
   clear hFL
   obtain ⟨ya, yc, hy⟩ := own_slice HO.out
   subst hy
   generalize sim r = s at *
   go_wp2_with fail
   refine C.mono ?_
   rintro e x1 ⟨rfl, bx1⟩
   clear C
   have C := one_any s x1
   go_wp2_with fail
   refine C.mono ?_
   rintro e x2 ⟨rfl, bx2⟩
   clear C
   have BX : Below wr.heap.size wr x2 := bx1.trans (bx2.mono bx1.size)
   have HO2 : Hid (rng.Own x2 w2.heap.size (.slice ya FL.length yc) FL) := HO.out.below BX
   have HP2 : Hid (IOwn x2 w2.heap.size (.slice (some ⟨b, 0, none⟩) Pn pc) P) := own_below HP.out BX
   have HB2' : Hid (Below w2.heap.size w2 x2) := HB.out.trans (BX.mono HB.out.size)
   clear bx1 bx2 BX HO HP HB hc
   have hs2 := HB2'.out.size
   go_wp2_with (at_builtin; refine wpList_append_own _ rfl _ _ 22 rfl w2.heap.size 66 i0 (.agg #[.int .i64 0, .int .i64 0]) 2 16 Tryz.underlying22 hi hz0 hz1 hz2 rfl (by decide) _ _ _ rfl (World.ownsRow.alloc HO2.out _) ⟨x2.heap.size, 0, none⟩ 1 1 [.int .i64 s, .int .i64 s] rfl rfl (two_cells _ _ _ _) (two_one _ _) ?c3 ?c4 ?c5 ?_)
   case c3 => unfold maxLen; omega
   case c4 => omega
   case c5 => first | omega | (simp; omega)
   intro v' w9 hown9 hgrow _
   have R2 : Hid (Below w2.heap.size w2 w9) := Below.grown (HB2'.out.alloc hs2 _) hgrow (by simp; omega) (fun k e => (HO2.out.lt k e).1)
   have R1 : Hid (rng.Own w9 w2.heap.size v' (m0 ++ (P.take (k + 1)).map (fun r => one (sim r)))) := by
    unfold Hid
    rw [HTK.out]
    exact own_snoc (p := one s) hown9
   have R3 : Hid (IOwn w9 w2.heap.size (.slice (some ⟨b, 0, none⟩) Pn pc) P) := by
    have q := World.ownsRow.alloc HP2.out (.cells #[.int .i64 s, .int .i64 s] 66)
    have q2 := World.ownsRow.alloc HO2.out (.cells #[.int .i64 s, .int .i64 s] 66)
    exact World.ownsRow.kept q hgrow (rng.own_apart q q2 (by decide))
   obtain ⟨xa', xc', hx'⟩ := own_slice hown9
   subst hx'
   clear hown9 hgrow HO2 HP2 HB2' HTK
   go_wp2
   go_roundw
   case rel => exact ⟨k + 1, by omega, by go_num, R1, R3, R2⟩
   case measure => simp [RowKit.intOf]; omega
  ·obtain rfl : k = Pn := by omega
   have hlt' : ¬ (k : Int) < (k : Int) := by omega
   have HFO : Hid (rng.Own wr w2.heap.size u6 (m0 ++ (ptsL M).map (fun r => one (sim r)))) := by
    have q := HO.out
    rw [List.take_of_length_le (by rw [HPn.out]; exact Nat.le_refl _)] at q
    rw [← HPM.out]
    exact q
   have hll : (m0 ++ (ptsL M).map (fun r => one (sim r))).length ≤ 1671168 := by
    rw [List.length_append, List.length_map, ← HPM.out, HPn.out, HMN.out]; omega
   obtain ⟨fa, fc, hf, hrv, _, _⟩ := HFO.out.view
   subst hf
   have C := rng.make_any fa fc _ wr (by omega) hrv
   have HBw : Hid (Below w2.heap.size w2 wr) := HB
   clear HO HP HFO HB hrv hll
   generalize (m0 ++ (ptsL M).map (fun r => one (sim r))).length = FLn at *
   go_wp2_with fail
   refine C.mono ?_
   rintro e w6 ⟨v6, f1, rfl, o6, hf1, b6⟩
   clear C
   have HF1 : Hid (IsSet f1 (has (m0 ++ (ptsL M).map (fun r => one (sim r))))) := hf1
   have hf1l : f1.length ≤ 557056 := set_len hf1
   have HB6 : Hid (Below w2.heap.size w2 w6) := HBw.out.trans (b6.mono HBw.out.size)
   have HST6 : Hid (Sl w6 (.slice ta Tn tc) T) := HST.out.below HB6.out
   have HSF6 : Hid (Sl w6 v6 f1) := o6.sl
   obtain ⟨f1a, f1c, hv6, kF, _⟩ := o6.sl
   subst hv6
   obtain ⟨a', c', e', kT, _⟩ := HST6.out
   injection e' with e1 e2 e3
   subst e1 e3
   clear e2 HBw b6 hf1 o6
   have C := rng.minus_any f1a ta f1c tc f1 T w6 (by omega) (by have := HTL.out; have := HTn.out; omega) kF kT
   rw [HTn.out] at C
   generalize hf1n : f1.length = f1n at *
   have HF1n : Hid (f1.length = f1n) := hf1n
   clear hf1n kF kT
   go_wp2_with fail
   refine C.mono ?_
   rintro e w7 ⟨v7, o, rfl, o7, ho, b7⟩
   clear C
   have HOS : Hid (IsSet o (fun x => has f1 x && !has T x)) := ho
   have hol : o.length ≤ 557056 := set_len ho
   have C := points_any (.slice ta Tn tc) T w7 (HST6.out.below b7) HIT.out.1
   have HQL : Hid ((ptsL T).length ≤ 1114112) := pts_len HIT.out.1
   have HQC : Hid (∀ r ∈ ptsL T, okI r) := fun r hr => code_ok (rng.has_code ((can_pts HIT.out.1 r).1 hr))
   obtain ⟨oa, oc, hv7⟩ := own_slice o7
   subst hv7
   have HO7 : Hid (rng.Own w7 w6.heap.size (.slice oa o.length oc) o) := o7
   have HB7 : Hid (Below w6.heap.size w6 w7) := b7
   clear ho o7 b7
   generalize hon : o.length = on at *
   have HON : Hid (o.length = on) := hon
   clear hon
   go_wp2_with fail
   refine C.mono ?_
   rintro e w8 ⟨v8, rfl, o8, b8⟩
   clear C
   have HB8 : Hid (Below w6.heap.size w6 w8) := HB7.out.trans (b8.mono HB7.out.size)
   have HO8 : Hid (rng.Own w8 w6.heap.size (.slice oa on oc) o) := HO7.out.below b8
   have HQ8 : Hid (IOwn w8 w6.heap.size v8 (ptsL T)) := rng.own_mono o8 HB7.out.size
   obtain ⟨qa, qc, hv8⟩ := own_slice o8
   subst hv8
   clear b8 HO7 HB7 o8
   obtain ⟨Q, hQ⟩ : ∃ Q, Q = ptsL T := ⟨_, rfl⟩
   have HQT : Hid (Q = ptsL T) := hQ
   rw [← hQ] at HQL HQC HQ8 ⊢
   clear hQ
   generalize hQn : Q.length = Qn at *
   have HQn : Hid (Q.length = Qn) := hQn
   have hql : Qn ≤ 1114112 := HQL.out
   have HBW : Hid (Below w.heap.size w w6) := HB2.out.trans (HB6.out.mono HB2.out.size)
   clear hQn HQL
   go_wp2
   go_loopw [9, 44] (fun u i wz => ∃ k : Nat, k ≤ Qn ∧ i = .int .i64 k ∧ Hid (rng.Own wz w6.heap.size u (o ++ ((Q.take k).filter (fun r => has f1 (sim r))).map one)) ∧ Hid (IOwn wz w6.heap.size (.slice qa Qn qc) Q) ∧ Hid (Below w6.heap.size w6 wz)) (fun _ i _ => Qn - (RowKit.intOf i).toNat)
   case atStart => exact ⟨0, Nat.zero_le _, rfl, by unfold Hid; rw [List.take_zero, List.filter_nil, List.map_nil, List.append_nil]; exact HO8.out, HQ8, HB8⟩
   case round =>
    clear HO8 HQ8 HB8
    obtain ⟨j, hj, rfl, HO, HP, HB⟩ := hrel
    by_cases hjt : j < Qn
    ·have hjt' : (j : Int) < (Qn : Int) := by omega
     obtain ⟨a1, c1, e1, hat⟩ := io_at HP.out
     obtain ⟨r, b, ha1, hc, hr⟩ := hat j (by rw [HQn.out]; exact hjt)
     injection e1 with e1 e2 e3
     subst e1 ha1 e3
     have hro := HQC.out r (List.mem_of_getElem? hr)
     have C := simple_t t r wr (HT.out.below (HBW.out.trans (HB.out.mono HBW.out.size))) hro
     have hll : (o ++ ((Q.take j).filter (fun r => has f1 (sim r))).map one).length ≤ 1671168 := by
      have h9 := List.length_filter_le (fun r => has f1 (sim r)) (Q.take j)
      rw [List.length_take] at h9
      rw [List.length_append, List.length_map, HON.out]; omega
     have HTK : Hid (∀ b, has f1 (sim r) = b → o ++ ((Q.take (j + 1)).filter (fun r => has f1 (sim r))).map one = (o ++ ((Q.take j).filter (fun r => has f1 (sim r))).map one) ++ (if b then [one r] else [])) := fun b hb => by
      rw [take_snoc hr, List.filter_append, List.map_append, ← List.append_assoc, List.filter_cons, hb]
      cases b <;> rfl
     clear hat e2 hr
     generalize hFL : o ++ ((Q.take j).filter (fun r => has f1 (sim r))).map one = FL at *
     clear hFL
     obtain ⟨ya, yc, hy⟩ := own_slice HO.out
     subst hy
     generalize sim r = s at *
     go_wp2_with fail
     refine C.mono ?_
     rintro e x1 ⟨rfl, bx1⟩
     clear C
     have HSF : Hid (Sl x1 (.slice f1a f1n f1c) f1) := HSF6.out.below (HB.out.trans (bx1.mono HB.out.size))
     have C := rng.has_s (.slice f1a f1n f1c) f1 s x1 HSF.out (by have := HF1n.out; omega)
     go_wp2_with fail
     refine C.mono ?_
     rintro e x2 ⟨rfl, bx2⟩
     clear C HSF
     have BX : Below wr.heap.size wr x2 := bx1.trans (bx2.mono bx1.size)
     have HO2 : Hid (rng.Own x2 w6.heap.size (.slice ya FL.length yc) FL) := HO.out.below BX
     have HP2 : Hid (IOwn x2 w6.heap.size (.slice (some ⟨b, 0, none⟩) Qn qc) Q) := own_below HP.out BX
     have HB2' : Hid (Below w6.heap.size w6 x2) := HB.out.trans (BX.mono HB.out.size)
     clear bx1 bx2 BX HO HP HB hc
     have hs2 := HB2'.out.size
     cases hb : has f1 s with
     | true =>
      have HTK2 := HTK.out true hb
      have HTK3 : Hid (o ++ ((Q.take (j + 1)).filter (fun r => has f1 (sim r))).map one = FL ++ [one r]) := HTK2
      clear HTK HTK2 hb
      have C := one_any r x2
      go_wp2_with fail
      refine C.mono ?_
      rintro e x3 ⟨rfl, bx3⟩
      clear C
      have HO3 : Hid (rng.Own x3 w6.heap.size (.slice ya FL.length yc) FL) := HO2.out.below bx3
      have HP3 : Hid (IOwn x3 w6.heap.size (.slice (some ⟨b, 0, none⟩) Qn qc) Q) := own_below HP2.out bx3
      have HB3' : Hid (Below w6.heap.size w6 x3) := HB2'.out.trans (bx3.mono HB2'.out.size)
      clear bx3 HO2 HP2 HB2' hs2
      have hs3 := HB3'.out.size
      go_wp2_with (at_builtin; refine wpList_append_own _ rfl _ _ 22 rfl w6.heap.size 66 i0 (.agg #[.int .i64 0, .int .i64 0]) 2 16 Tryz.underlying22 hi hz0 hz1 hz2 rfl (by decide) _ _ _ rfl (World.ownsRow.alloc HO3.out _) ⟨x3.heap.size, 0, none⟩ 1 1 [.int .i64 r, .int .i64 r] rfl rfl (two_cells _ _ _ _) (two_one _ _) ?d3 ?d4 ?d5 ?_)
      case d3 => unfold maxLen; omega
      case d4 => omega
      case d5 => first | omega | (simp; omega)
      intro v' w9 hown9 hgrow _
      have R2 : Hid (Below w6.heap.size w6 w9) := Below.grown (HB3'.out.alloc hs3 _) hgrow (by simp; omega) (fun k e => (HO3.out.lt k e).1)
      have R1 : Hid (rng.Own w9 w6.heap.size v' (o ++ ((Q.take (j + 1)).filter (fun r => has f1 (sim r))).map one)) := by
       unfold Hid
       rw [HTK3.out]
       exact own_snoc (p := one r) hown9
      have R3 : Hid (IOwn w9 w6.heap.size (.slice (some ⟨b, 0, none⟩) Qn qc) Q) := by
       have q := World.ownsRow.alloc HP3.out (.cells #[.int .i64 r, .int .i64 r] 66)
       have q2 := World.ownsRow.alloc HO3.out (.cells #[.int .i64 r, .int .i64 r] 66)
       exact World.ownsRow.kept q hgrow (rng.own_apart q q2 (by decide))
      obtain ⟨xa', xc', hx'⟩ := own_slice hown9
      subst hx'
      clear hown9 hgrow HO3 HP3 HB3' HTK3
      go_wp2
      go_roundw
      case rel => exact ⟨j + 1, by omega, by go_num, R1, R3, R2⟩
      case measure => simp [RowKit.intOf]; omega
     | false =>
      have HTK2 := HTK.out false hb
      have R1 : Hid (rng.Own x2 w6.heap.size (.slice ya FL.length yc) (o ++ ((Q.take (j + 1)).filter (fun r => has f1 (sim r))).map one)) := by
       unfold Hid
       rw [HTK2]
       simpa using HO2.out
      clear HTK HTK2 hb HO2
      go_wp2
      go_roundw
      case rel => exact ⟨j + 1, by omega, by go_num, R1, HP2, HB2'⟩
      case measure => simp [RowKit.intOf]; omega
    ·obtain rfl : j = Qn := by omega
     have hjt' : ¬ (j : Int) < (j : Int) := by omega
     have HFO : Hid (rng.Own wr w6.heap.size u9 (o ++ ((ptsL T).filter (fun r => has f1 (sim r))).map one)) := by
      have q := HO.out
      rw [List.take_of_length_le (by rw [HQn.out]; exact Nat.le_refl _)] at q
      rw [← HQT.out]
      exact q
     have hll : (o ++ ((ptsL T).filter (fun r => has f1 (sim r))).map one).length ≤ 1671168 := by
      have h9 := List.length_filter_le (fun r => has f1 (sim r)) (ptsL T)
      rw [← HQT.out, HQn.out] at h9
      rw [List.length_append, List.length_map, ← HQT.out, HON.out]; omega
     obtain ⟨fa2, fc2, hf2, hrv, _, _⟩ := HFO.out.view
     subst hf2
     have C := rng.make_any fa2 fc2 _ wr (by omega) hrv
     have HBw : Hid (Below w.heap.size w wr) := HBW.out.trans (HB.out.mono HBW.out.size)
     clear HO HP HFO HB hrv hll
     generalize (o ++ ((ptsL T).filter (fun r => has f1 (sim r))).map one).length = FLn2 at *
     go_wp2_with fail
     refine C.mono ?_
     rintro e w9 ⟨v9, res, rfl, o9, hres, b9⟩
     clear C
     have hfin := clo_prog HIT.out HM.out HM0.out HF1.out HOS.out hres
     have H9 : Hid (rng.Own w9 w.heap.size v9 res) := rng.own_mono o9 HBw.out.size
     obtain ⟨za, zc, hv9⟩ := own_slice o9
     subst hv9
     clear o9 hres
     generalize res.length = zn at *
     go_wp2
     go_ret
     exact ⟨_, res, rfl, H9.out, hfin, HBw.out.trans (b9.mono HBw.out.size)⟩
end Go.Proofs.YtinlolmjafjhnaaGreatDoor.fld
end

section
/- awake: the closure of k. -/
set_option linter.unusedVariables false
set_option linter.unusedSimpArgs false
namespace Go.Proofs.YtinlolmjafjhnaaGreatDoor.fld
open Go.RowKit Go.Maps
open Go.Proofs.YtinlolmjafjhnaaGreatDoor.lin Go.Proofs.YtinlolmjafjhnaaGreatDoor.prp
open Go.Proofs.YtinlolmjafjhnaaGreatDoor.rng (R has IsSet Sl code CanF)

def kL : List R := [(75, 75), (107, 107), (8490, 8490)]
theorem has_one (a x : Int) : has [(a, a)] x = true ↔ code x = true ∧ x = a := by
 rw [rng.has_iff]
 refine and_congr_right fun _ => ⟨?_, ?_⟩
 ·rintro ⟨p, hp, h1, h2⟩
  obtain rfl := List.mem_singleton.1 hp
  simp only at h1 h2
  omega
 ·rintro rfl
  exact ⟨_, List.mem_singleton.2 rfl, Int.le_refl _, Int.le_refl _⟩
end Go.Proofs.YtinlolmjafjhnaaGreatDoor.fld
end
