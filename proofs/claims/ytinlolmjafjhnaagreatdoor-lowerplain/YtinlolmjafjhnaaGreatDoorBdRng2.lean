/- Texts that the proof leans on, one behind the other. -/
import Derived.Shelf.SlSortCmp.WholeK
import Derived.Shelf.SlicesG.Cmp
import Derived.Test.YtinlolmjafjhnaaGreatDoorProg
import Derived.Test.YtinlolmjafjhnaaGreatDoorBdRng1
import Derived.Deep.RegionWith

section
/- The shelf's contracts on sorting ranges and comparing numbers, at this dump's numbers. -/
namespace Go.Proofs
open Go.Shelf
def Tryz.sortR_ren : Go.Shelf.Ren := ⟨fun | 6 => 221 | 15 => 220 | 14 => 272 | 28 => 270 | 29 => 271 | 20 => 302 | 21 => 303 | 22 => 304 | 23 => 305 | 24 => 306 | 25 => 307 | 26 => 308 | 27 => 309 | 46 => 327 | 47 => 298 | 48 => 299 | 49 => 328 | 50 => 329 | 57 => 338 | n => n, fun | 22 => 22 | 24 => 66 | 25 => 277 | 3 => 3 | 39 => 175 | 0 => 0 | 53 => 218 | 55 => 212 | 4 => 4 | 46 => 303 | 45 => 302 | 50 => 99 | 5 => 5 | 9 => 9 | 66 => 336 | 70 => 51 | 76 => 357 | 77 => 358 | n => n, fun | n => n⟩
theorem Tryz.sortR : Go.Proofs.SlLaysF0.n6 Tryz.prog Tryz.sortR_ren := {
 mixed := by kernel_rfl
 f6 := ⟨Tryz.f221.name, by decide, Tryz.func221.trans (congrArg some (by kernel_rfl))⟩
 f14 := ⟨Tryz.f272.name, by decide, Tryz.func272.trans (congrArg some (by kernel_rfl))⟩
 f15 := Tryz.func220.trans (congrArg some (by kernel_rfl))
 f20 := ⟨Tryz.f302.name, by decide, Tryz.func302.trans (congrArg some (by kernel_rfl))⟩
 f21 := ⟨Tryz.f303.name, by decide, Tryz.func303.trans (congrArg some (by kernel_rfl))⟩
 f22 := ⟨Tryz.f304.name, by decide, Tryz.func304.trans (congrArg some (by kernel_rfl))⟩
 f23 := ⟨Tryz.f305.name, by decide, Tryz.func305.trans (congrArg some (by kernel_rfl))⟩
 f24 := ⟨Tryz.f306.name, by decide, Tryz.func306.trans (congrArg some (by kernel_rfl))⟩
 f25 := ⟨Tryz.f307.name, by decide, Tryz.func307.trans (congrArg some (by kernel_rfl))⟩
 f26 := ⟨Tryz.f308.name, by decide, Tryz.func308.trans (congrArg some (by kernel_rfl))⟩
 f27 := ⟨Tryz.f309.name, by decide, Tryz.func309.trans (congrArg some (by kernel_rfl))⟩
 f28 := Tryz.func270.trans (congrArg some (by kernel_rfl))
 f29 := Tryz.func271.trans (congrArg some (by kernel_rfl))
 f46 := ⟨Tryz.f327.name, by decide, Tryz.func327.trans (congrArg some (by kernel_rfl))⟩
 f47 := Tryz.func298.trans (congrArg some (by kernel_rfl))
 f48 := Tryz.func299.trans (congrArg some (by kernel_rfl))
 f49 := ⟨Tryz.f328.name, by decide, Tryz.func328.trans (congrArg some (by kernel_rfl))⟩
 f50 := ⟨Tryz.f329.name, by decide, Tryz.func329.trans (congrArg some (by kernel_rfl))⟩
 f57 := ⟨Tryz.f338.name, by decide, Tryz.func338.trans (congrArg some (by kernel_rfl))⟩
 t0 := Tryz.underlying0
 a0 := Tryz.isAgg0
 z0 := Tryz.sizeOf0
 v0 := Tryz.zeroValue0
 t3 := Tryz.underlying3
 a3 := Tryz.isAgg3
 z3 := Tryz.sizeOf3
 v3 := Tryz.zeroValue3
 t4 := Tryz.underlying4
 a4 := Tryz.isAgg4
 z4 := Tryz.sizeOf4
 v4 := Tryz.zeroValue4
 t5 := Tryz.underlying5
 a5 := Tryz.isAgg5
 z5 := Tryz.sizeOf5
 v5 := Tryz.zeroValue5
 t9 := Tryz.underlying9
 a9 := Tryz.isAgg9
 z9 := Tryz.sizeOf9
 v9 := Tryz.zeroValue9
 t22 := Tryz.underlying22
 a22 := Tryz.isAgg22
 z22 := Tryz.sizeOf22
 v22 := Tryz.zeroValue22
 t25 := Tryz.underlying277
 a25 := Tryz.isAgg277
 z25 := Tryz.sizeOf277
 v25 := Tryz.zeroValue277
 t39 := Tryz.underlying175
 a39 := Tryz.isAgg175
 z39 := Tryz.sizeOf175
 v39 := Tryz.zeroValue175
 t45 := Tryz.underlying302
 a45 := Tryz.isAgg302
 z45 := Tryz.sizeOf302
 v45 := Tryz.zeroValue302
 t46 := Tryz.underlying303
 a46 := Tryz.isAgg303
 z46 := Tryz.sizeOf303
 v46 := Tryz.zeroValue303
 t50 := Tryz.underlying99
 a50 := Tryz.isAgg99
 z50 := Tryz.sizeOf99
 v50 := Tryz.zeroValue99
 t53 := Tryz.underlying218
 a53 := Tryz.isAgg218
 z53 := Tryz.sizeOf218
 v53 := Tryz.zeroValue218
 t55 := Tryz.underlying212
 a55 := Tryz.isAgg212
 z55 := Tryz.sizeOf212
 v55 := Tryz.zeroValue212
 t66 := Tryz.underlying336
 a66 := Tryz.isAgg336
 z66 := Tryz.sizeOf336
 v66 := Tryz.zeroValue336
 t70 := Tryz.underlying51
 a70 := Tryz.isAgg51
 z70 := Tryz.sizeOf51
 v70 := Tryz.zeroValue51
 t76 := Tryz.underlying357
 a76 := Tryz.isAgg357
 z76 := Tryz.sizeOf357
 v76 := Tryz.zeroValue357
 t77 := Tryz.underlying358
 a77 := Tryz.isAgg358
 z77 := Tryz.sizeOf358
 v77 := Tryz.zeroValue358 }
def Tryz.cmpI_ren : Go.Shelf.Ren := ⟨fun | 5 => 112 | 7 => 156 | n => n, fun | 22 => 3 | 3 => 3 | 4 => 4 | n => n, fun | n => n⟩
theorem Tryz.cmpI : Go.Proofs.SlLaysC2.n5 Tryz.prog Tryz.cmpI_ren := {
 mixed := by kernel_rfl
 f5 := ⟨Tryz.f112.name, by decide, Tryz.func112.trans (congrArg some (by kernel_rfl))⟩
 f7 := ⟨Tryz.f156.name, by decide, Tryz.func156.trans (congrArg some (by kernel_rfl))⟩
 t3 := Tryz.underlying3
 a3 := Tryz.isAgg3
 z3 := Tryz.sizeOf3
 v3 := Tryz.zeroValue3
 t4 := Tryz.underlying4
 a4 := Tryz.isAgg4
 z4 := Tryz.sizeOf4
 v4 := Tryz.zeroValue4
 t22 := Tryz.underlying3
 a22 := Tryz.isAgg3
 z22 := Tryz.sizeOf3
 v22 := Tryz.zeroValue3 }
end Go.Proofs
end

section
/- What slices.Equal answers of two rows of the same ranges; ranges.Has, the document's Has and in, ranges.Can; the four ways of two sets. -/
set_option linter.unusedVariables false
set_option linter.unusedSimpArgs false
namespace Go.Proofs.YtinlolmjafjhnaaGreatDoor.rng
open Go.RowKit

theorem get_lt {l : List R} {n k : Nat} (h : l.length = n) (hk : k < n) : ∃ x y, l[k]? = some (x, y) := by
 subst h; exact ⟨_, _, List.getElem?_eq_getElem hk⟩
theorem drop_get {l : List R} {k : Nat} {x y : Int} (h : l[k]? = some (x, y)) : l.drop k = (x, y) :: l.drop (k + 1) := by
 obtain ⟨hk, e⟩ := List.getElem?_eq_some_iff.1 h
 rw [List.drop_eq_getElem_cons hk, e]
theorem take_get {l : List R} {k : Nat} {x y : Int} (h : l[k]? = some (x, y)) : l.take (k + 1) = l.take k ++ [(x, y)] := by
 obtain ⟨hk, e⟩ := List.getElem?_eq_some_iff.1 h
 rw [List.take_succ_eq_append_getElem hk, e]

theorem has_no {l : List R} {r : Int} (h : r < 0 ∨ 1114111 < r) : has l r = false := by
 cases t : has l r
 ·rfl
 ·have := (code_iff r).1 (has_code t); omega

set_option maxHeartbeats 400000 in
theorem has_any (ao : Option Addr) (cap : Nat) (l : List R) (r : Int) (w : World) (hn : l.length ≤ 1000000000) (hv : RV w ao l) :
  Calls Tryz.prog 95 #[.slice ao l.length cap, .int .i64 r] w fun e w' => e = .returned (.bool (has l r)) ∧ Below w.heap.size w w' := by
 have HV : Hid (RV w ao l) := hv
 obtain ⟨n, hl⟩ : ∃ n, l.length = n := ⟨_, rfl⟩
 rw [hl] at hn ⊢
 have HL : Hid (l.length = n) := hl
 clear hv hl
 by_cases h1 : r < 0
 ·rw [has_no (Or.inl h1)]
  go_enter Tryz.func95, Tryz.ntmps95
  go_wp2
  go_ret
  exact ⟨rfl, Below.refl _ _⟩
 by_cases h2 : 1114111 < r
 ·rw [has_no (Or.inr h2)]
  go_enter Tryz.func95, Tryz.ntmps95
  go_wp2
  go_ret
  exact ⟨rfl, Below.refl _ _⟩
 have HC : Hid (code r = true) := (code_iff r).2 (by omega)
 go_enter Tryz.func95, Tryz.ntmps95
 go_wp2
 go_loopw [15] (fun i wr => ∃ k : Nat, k ≤ n ∧ i = .int .i64 k ∧ Hid (has (l.drop k) r = has l r) ∧ Below w.heap.size w wr) (fun i _ => n - (intOf i).toNat)
 case atStart => exact ⟨0, Nat.zero_le _, rfl, rfl, Below.refl _ _⟩
 case round =>
  obtain ⟨k, hk, rfl, HD, hbel⟩ := hrel
  by_cases hlt : k < n
  ·obtain ⟨x, y, hp⟩ := get_lt HL.out hlt
   obtain ⟨b, off, rfl, hc⟩ := (HV.out.below hbel).some (by have := HL.out; omega)
   obtain ⟨c1, c2⟩ := hc k (x, y) hp
   simp only at c1 c2
   have HN : Hid (has (l.drop k) r = (inP (x, y) r || has (l.drop (k + 1)) r)) := by
    unfold Hid; rw [drop_get hp, has_cons, HC.out, Bool.true_and]
   clear hc hp
   by_cases t1 : x ≤ r
   ·by_cases t2 : r ≤ y
    ·have HE : Hid (has l r = true) := by
      unfold Hid; rw [← HD.out, HN.out, (inP_iff (x, y) r).2 ⟨t1, t2⟩]; rfl
     clear HD HN
     go_wp2
     go_ret
     exact ⟨ret_bool HE.out.symm, hbel.alloc hbel.size _⟩
    ·have HE : Hid (has (l.drop (k + 1)) r = has l r) := by
      unfold Hid; rw [← HD.out, HN.out]
      have : inP (x, y) r = false := by cases t : inP (x, y) r; rfl; have := ((inP_iff _ _).1 t).2; simp only at this; omega
      rw [this]; rfl
     clear HD HN
     go_wp2
     go_roundw
     case rel => exact ⟨k + 1, by omega, by go_num, HE, hbel.alloc hbel.size _⟩
     case measure => simp [intOf]; omega
   ·have HE : Hid (has (l.drop (k + 1)) r = has l r) := by
     unfold Hid; rw [← HD.out, HN.out]
     have : inP (x, y) r = false := by cases t : inP (x, y) r; rfl; have := ((inP_iff _ _).1 t).1; simp only at this; omega
     rw [this]; rfl
    clear HD HN
    go_wp2
    go_roundw
    case rel => exact ⟨k + 1, by omega, by go_num, HE, hbel.alloc hbel.size _⟩
    case measure => simp [intOf]; omega
  ·go_wp2
   go_ret
   exact ⟨ret_bool (by rw [← HD.out, List.drop_of_length_le (by have := HL.out; omega), has_nil]), hbel⟩

set_option maxHeartbeats 400000 in
theorem rhas_any (ao : Option Addr) (cap : Nat) (l : List R) (r : Int) (w : World) (hn : l.length ≤ 8796093021952) (hv : RV w ao l) :
  Calls Tryz.prog 169 #[.slice ao l.length cap, .int .i64 r] w fun e w' => e = .returned (.bool (has l r)) ∧ Below w.heap.size w w' := by
 have HV : Hid (RV w ao l) := hv
 obtain ⟨n, hl⟩ : ∃ n, l.length = n := ⟨_, rfl⟩
 rw [hl] at hn ⊢
 have HL : Hid (l.length = n) := hl
 clear hv hl
 go_enter Tryz.func169, Tryz.ntmps169
 go_wp2
 go_loopw [9] (fun i wr => ∃ k : Nat, k ≤ n ∧ i = .int .i64 k ∧ Hid (has (l.drop k) r = has l r) ∧ Below w.heap.size w wr) (fun i _ => n - (intOf i).toNat)
 case atStart => exact ⟨0, Nat.zero_le _, rfl, rfl, Below.refl _ _⟩
 case round =>
  obtain ⟨k, hk, rfl, HD, hbel⟩ := hrel
  by_cases hlt : k < n
  ·obtain ⟨x, y, hp⟩ := get_lt HL.out hlt
   obtain ⟨b, off, rfl, hc⟩ := (HV.out.below hbel).some (by have := HL.out; omega)
   obtain ⟨c1, c2⟩ := hc k (x, y) hp
   simp only at c1 c2
   have HN : Hid (has (l.drop k) r = (code r && inP (x, y) r || has (l.drop (k + 1)) r)) := by
    unfold Hid; rw [drop_get hp, has_cons]
   clear hc hp
   by_cases t : (0 ≤ r ∧ r ≤ 1114111) ∧ x ≤ r ∧ r ≤ y
   ·obtain ⟨⟨t0, t3⟩, t1, t2⟩ := t
    have HE : Hid (has l r = true) := by
     unfold Hid; rw [← HD.out, HN.out, (inP_iff (x, y) r).2 ⟨t1, t2⟩, (code_iff r).2 ⟨t0, t3⟩]; rfl
    clear HD HN
    go_wp2
    go_ret
    exact ⟨ret_bool HE.out.symm, hbel.alloc hbel.size _⟩
   ·have HE : Hid (has (l.drop (k + 1)) r = has l r) := by
     unfold Hid; rw [← HD.out, HN.out]
     have : (code r && inP (x, y) r) = false := by
      rw [Bool.eq_false_iff]; intro h; rw [Bool.and_eq_true, code_iff, inP_iff] at h; exact t h
     rw [this]; rfl
    have R1 := hbel.alloc hbel.size (.cells #[.int .i64 x, .int .i64 y] 66)
    clear HD HN
    have key : ∀ wz : World, Below w.heap.size w wz → ∃ k' : Nat, k' ≤ n ∧ Value.int .i64 ((k : Int) + 1) = .int .i64 k' ∧ Hid (has (l.drop k') r = has l r) ∧ Below w.heap.size w wz := fun wz hz => ⟨k + 1, by omega, by go_num, HE, hz⟩
    by_cases t0 : 0 ≤ r
    ·by_cases t3 : r ≤ 1114111
     ·by_cases t1 : x ≤ r
      ·have t2 : ¬ r ≤ y := fun h => t ⟨⟨t0, t3⟩, t1, h⟩
       clear t
       go_wp2
       go_roundw
       case rel => exact key _ R1
       case measure => simp [intOf]; omega
      ·clear t
       go_wp2
       go_roundw
       case rel => exact key _ R1
       case measure => simp [intOf]; omega
     ·clear t
      go_wp2
      go_roundw
      case rel => exact key _ R1
      case measure => simp [intOf]; omega
    ·clear t
     go_wp2
     go_roundw
     case rel => exact key _ R1
     case measure => simp [intOf]; omega
  ·go_wp2
   go_ret
   exact ⟨ret_bool (by rw [← HD.out, List.drop_of_length_le (by have := HL.out; omega), has_nil]), hbel⟩

/-- The four ways of two sets. -/
def way (k : Nat) (x y : Bool) : Bool := if k = 0 then x || y else if k = 1 then x && y else if k = 2 then x && !y else (x != y)
theorem in_any (a1 a2 : Option Addr) (c1 c2 : Nat) (l m : List R) (kind : Nat) (r : Int) (w : World) (hk : kind ≤ 3) (hn : l.length ≤ 8796093021952) (hm : m.length ≤ 8796093021952) (h1 : RV w a1 l) (h2 : RV w a2 m) :
  Calls Tryz.prog 127 #[.slice a1 l.length c1, .slice a2 m.length c2, .int .i64 kind, .int .i64 r] w fun e w' => e = .returned (.bool (way kind (has l r) (has m r))) ∧ Below w.heap.size w w' := by
 have C1 := fun W (h : RV W a1 l) => rhas_any a1 c1 l r W hn h
 have C2 := fun W (h : RV W a2 m) => rhas_any a2 c2 m r W hm h
 have H1 : Hid (RV w a1 l) := h1
 have H2 : Hid (RV w a2 m) := h2
 clear h1 h2
 generalize has l r = x at *
 generalize has m r = y at *
 generalize l.length = n1 at *
 generalize m.length = n2 at *
 rcases (show kind = 0 ∨ kind = 1 ∨ kind = 2 ∨ kind = 3 by omega) with rfl | rfl | rfl | rfl
 all_goals
  go_enter Tryz.func127, Tryz.ntmps127
  go_wp2_with fail
  refine (C1 _ H1.out).mono ?_
  rintro e w1 ⟨rfl, hb1⟩
  go_wp2_with fail
  refine (C2 _ (H2.out.below hb1)).mono ?_
  rintro e w2 ⟨rfl, hb2⟩
  have hb := hb1.trans (hb2.mono hb1.size)
  clear C1 C2 hb1 hb2
  cases x <;> cases y <;> (go_wp2; go_ret; exact ⟨rfl, hb⟩)
end Go.Proofs.YtinlolmjafjhnaaGreatDoor.rng
end

section
/- What slices.SortFunc leaves of a row of ranges: the same ranges, by their beginnings. -/
set_option linter.unusedVariables false
set_option linter.unusedSimpArgs false
namespace Go.Proofs.YtinlolmjafjhnaaGreatDoor.rng
open Go.Shelf Go.RowKit Go.Lib Go.Sort

def encR (x : R) : List Value := [.int .i64 x.1, .int .i64 x.2]
theorem ltLo (x y : R) : ltOf (fun x y : R => Lib.compareInt x.1 y.1) x y = decide (x.1 < y.1) := by
 unfold ltOf Lib.compareInt
 by_cases h1 : x.1 < y.1
 ·simp [h1]
 ·by_cases h2 : y.1 < x.1 <;> simp [h1, h2]
theorem swoLo : SWO (ltOf fun x y : R => Lib.compareInt x.1 y.1) where
 irrefl x := by rw [ltLo]; simp
 trans x y z h1 h2 := by rw [ltLo] at *; simp at *; omega
 ntrans x y z h1 h2 := by rw [ltLo] at *; simp at *; omega
set_option maxHeartbeats 2000000 in
theorem closure_any (x y : R) (W : World) : Calls Tryz.prog 222 #[.agg #[.int .i64 x.1, .int .i64 x.2], .agg #[.int .i64 y.1, .int .i64 y.2]] W fun e w' => e = .returned (.int .i64 (Lib.compareInt x.1 y.1)) ∧ ∃ q os', w' = grow (W.drewN q) os' := by
 have hcon := fun W' => AnyG.cmp_Compare_int Tryz.cmpI x.1 y.1 W'
 change ∀ W', Calls Tryz.prog 112 _ _ _ at hcon
 generalize Lib.compareInt x.1 y.1 = r at hcon ⊢
 go_enter Tryz.func222, Tryz.ntmps222
 go_wp2_with (go_at_call 112; refine (hcon _).mono ?_; rintro e w' ⟨rfl, rfl⟩)
 go_ret
 exact ⟨rfl, 0, _, by rw [alloc_eq_grow, alloc_eq_grow, grow_grow]; rfl⟩
theorem cmpLays (blk off size : Nat) (w : World) : CmpLays Tryz.prog 222 #[] encR 2 (fun x y => Lib.compareInt x.1 y.1) blk off size w :=
 fun _ _ _ _ x y => closure_any x y _

theorem flatK_eq (l : List R) : flatK encR 2 l.toArray = (flat l).toArray := by
 refine Array.ext (by simp [flat_length]) fun t h1 h2 => ?_
 have ht : t < l.length * 2 := by simpa using h1
 have hg : (flatK encR 2 l.toArray)[t]! = (encR l.toArray[t / 2]!)[t % 2]! := get_flatK encR 2 l.toArray t (by simpa using ht)
 rw [getElem!_pos _ t h1] at hg
 rw [hg]
 have hl : t / 2 < l.length := by omega
 have hx : l[t / 2]? = some l[t / 2] := List.getElem?_eq_getElem hl
 obtain ⟨e1, e2⟩ := flat_get l (t / 2) _ hx
 have hx' : l.toArray[t / 2]! = l[t / 2] := by rw [getElem!_pos _ _ (by simpa using hl)]; simp
 rw [hx']
 have h2' : t < (flat l).length := by simpa using h2
 have goalE : (flat l)[t]? = some ((encR l[t / 2])[t % 2]!) := by
  rcases Nat.mod_two_eq_zero_or_one t with h | h
  ·rw [h]
   have ht2 : t = t / 2 * 2 := by omega
   rw [show (flat l)[t]? = (flat l)[t / 2 * 2]? from congrArg (fun k => (flat l)[k]?) ht2]; exact e1
  ·rw [h]
   have ht2 : t = t / 2 * 2 + 1 := by omega
   rw [show (flat l)[t]? = (flat l)[t / 2 * 2 + 1]? from congrArg (fun k => (flat l)[k]?) ht2]; exact e2
 have := List.getElem?_eq_getElem h2'
 rw [goalE] at this
 simpa using this
theorem holds_own {w : World} {B g cap : Nat} {s : List R} (h : Own w B (.slice (some ⟨g, 0, none⟩) s.length cap) s) : HoldsK encR 2 w g 0 s.toArray := by
 unfold HoldsK
 rw [flatK_eq]
 intro j hj
 have hj' : j < s.length * 2 := by simpa [flat_length] using hj
 have h' : w.ownsRow B 66 2 (.slice (some ⟨g, 0, none⟩) s.length cap) s.length (flat s) := h
 rw [Nat.zero_add]
 refine ⟨(h'.cellAt j hj').trans ?_, h'.frozenAt j⟩
 rw [getElem!_pos _ j hj]
 have : j < (flat s).length := by simpa using hj
 rw [List.getElem?_eq_getElem this]; simp
theorem own_sorted {w : World} {B g cap n : Nat} {os : Array Obj} {s t : List R} (h : Own w B (.slice (some ⟨g, 0, none⟩) s.length cap) s) (hl : t.length = s.length) (hB : B ≤ w.heap.size) :
  Own (sortWorldK encR 2 w g 0 n t.toArray os) B (.slice (some ⟨g, 0, none⟩) s.length cap) t ∧ Below B w (sortWorldK encR 2 w g 0 n t.toArray os) := by
 rcases h.2 with ⟨h0, _⟩ | ⟨g', cap', cur, hv, hg, hgg, hc, hm, hs, ht⟩
 ·cases h0
 cases hv
 have hlt : g < w.heap.size := (Array.getElem?_eq_some_iff.1 hgg).1
 unfold sortWorldK putRowK
 rw [flatK_eq]
 have hF : (flat t).length = s.length * 2 := by rw [flat_length, hl]
 constructor
 ·refine ⟨flat_length t, .inr ⟨g, cap, putCells id 0 (flat t).toArray cur, by rw [hl], hg, ?_, by omega, hm, by simp [putCells, hs], ?_⟩⟩
  ·rw [heap_grow_old _ _ (by simpa using hlt)]
   simp [putRow, mapBlock, Sort.ahead, Array.getElem?_modify, hgg, onCells]
  ·rw [hl]
   apply List.ext_getElem?
   intro j
   by_cases hj : j < s.length * 2
   ·rw [List.getElem?_take_of_lt hj, Array.getElem?_toList]
    have hj2 : j < (flat t).length := by omega
    have hcs : s.length * 2 ≤ cap * 2 := by omega
    simp [putCells, hj2, show j < cur.size by omega]
   ·rw [List.getElem?_take_eq_none (by omega), List.getElem?_eq_none (by omega)]
 ·refine ⟨rfl, rfl, rfl, by simp, fun k hk => ?_⟩
  rw [heap_grow_old _ _ (by simp; omega)]
  have : g ≠ k := by omega
  simp [putRow, mapBlock, Sort.ahead, Array.getElem?_modify, this]

set_option maxHeartbeats 2000000 in
theorem sort_any (g cap B : Nat) (s : List R) (w : World) (h : Own w B (.slice (some ⟨g, 0, none⟩) s.length cap) s) (hB : B ≤ w.heap.size) (hn : s.length ≤ 200000000) :
  Calls Tryz.prog 221 #[.slice (some ⟨g, 0, none⟩) s.length cap, .func (.func 222) #[] #[]] w fun e w' => e = .returned (.tuple #[]) ∧ ∃ t, t.Perm s ∧ t.Pairwise (fun a b : R => a.1 ≤ b.1) ∧ Own w' B (.slice (some ⟨g, 0, none⟩) s.length cap) t ∧ Below B w w' := by
 have eg : ∀ args w, (callFunc 222 args).run Tryz.prog w = .ok (.enter 222 args) w := enters_of Tryz.func222 (by kernel_rfl) rfl
 have hg : g < w.heap.size := by
  rcases h.2 with ⟨h0, _⟩ | ⟨g', cap', cur, hv, hg, hgg, _⟩
  ·cases h0
  ·cases hv; exact (Array.getElem?_eq_some_iff.1 hgg).1
 have hcon := AnyQ.slices_SortFunc Tryz.sortR 2 Tryz.isAgg66 Tryz.sizeOf66 encR (fun _ => rfl) (fun x v hv => by simp [encR] at hv; rcases hv with rfl | rfl <;> rfl) (fun x y : R => Lib.compareInt x.1 y.1) swoLo 222 #[] g 0 cap s.toArray w eg (cmpLays g 0 _ w) (holds_own h) hg (by simp; omega)
 change Calls Tryz.prog 221 _ _ _ at hcon
 have e : s.toArray.size = s.length := by simp
 rw [e] at hcon
 refine hcon.mono ?_
 rintro e w' ⟨rfl, d', n, os, hp, hs, rfl⟩
 obtain ⟨p1, p2, p3⟩ := hp
 have hsz : d'.size = s.length := by simpa using p1
 have hperm : d'.toList.Perm s := by
  have e1 : d'.extract 0 s.length = d' := by rw [← hsz]; simp
  have e2 : s.toArray.extract 0 s.length = s.toArray := by simp
  rw [e1, e2] at p3
  simpa using p3
 refine ⟨rfl, d'.toList, hperm, ?_, ?_⟩
 ·rw [List.pairwise_iff_getElem]
  intro i j hi hj hij
  have hi' : i < d'.size := by simpa using hi
  have hj' : j < d'.size := by simpa using hj
  have := hs i j (Nat.zero_le _) hij (by omega)
  rw [ltLo, getElem!_pos d' i hi', getElem!_pos d' j hj'] at this
  simp at this
  simpa using this
 ·have hl : d'.toList.length = s.length := by simpa using hsz
  have := own_sorted (n := n) (os := os) h hl hB
  simpa using this
end Go.Proofs.YtinlolmjafjhnaaGreatDoor.rng
end

section
/- What ranges.rising answers: the ranges that mean something, cut to code points, by their beginnings. -/
set_option linter.unusedVariables false
set_option linter.unusedSimpArgs false
namespace Go.Proofs.YtinlolmjafjhnaaGreatDoor.rng
open Go.RowKit

theorem two_new (w : World) (o : Obj) (x y : Value) (t : TypeId) : ∀ (j : Nat) (u : Value), [x, y][j]? = some u → ((w.alloc o).alloc (Obj.cells #[x, y] t)).cell? ((⟨w.heap.size + 1, 0, none⟩ : Addr).add j) = some u := by
 intro j u hj
 match j, hj with
 | 0, hj => simp at hj; subst hj; simp [Addr.add]
 | 1, hj => simp at hj; subst hj; simp [Addr.add]
 | k + 2, hj => simp at hj
theorem flat_two (x y : Int) : flat [(x, y)] = [.int .i64 x, .int .i64 y] := rfl

set_option maxHeartbeats 2000000 in
theorem rise_any (ao : Option Addr) (cap : Nat) (l : List R) (w : World) (hn : l.length ≤ 200000000) (hv : RV w ao l) :
  Calls Tryz.prog 175 #[.slice ao l.length cap] w fun e w' => ∃ v s, e = .returned v ∧ Own w' w.heap.size v s ∧ s.Perm (usable l) ∧ s.Pairwise (fun a b => a.1 ≤ b.1) ∧ Below w.heap.size w w' := by
 obtain ⟨i0, hi, hz0, hz1, hz2⟩ := info_parts infoRange
 have HV : Hid (RV w ao l) := hv
 obtain ⟨n, hl⟩ : ∃ n, l.length = n := ⟨_, rfl⟩
 rw [hl] at hn ⊢
 have HL : Hid (l.length = n) := hl
 clear hv hl
 obtain ⟨w1, hmk, hown1, hg1⟩ := run_make_own (P := Tryz.prog) w w.heap.size 22 66 i0 _ 2 Tryz.underlying22 hi hz0 hz1 .i64 .i64 n (by rw [hz2]; omega) (by unfold maxLen; omega) (Nat.le_refl _)
 have hb1 := (Below.refl w.heap.size w).grown hg1 (Nat.le_refl _) (fun k e => by cases e)
 have HO1 : Hid (w1.ownsRow w.heap.size 66 2 (.slice (some ⟨w.heap.size, 0, none⟩) 0 n) 0 []) := hown1
 clear hown1 hg1
 go_enter Tryz.func175, Tryz.ntmps175
 go_wp2
 go_loopw [3, 11] (fun v i wr => ∃ (k : Nat) (s : List R), k ≤ n ∧ i = .int .i64 k ∧ s.length ≤ k ∧ Hid (s = usable (l.take k)) ∧ Hid (∃ g c, v = .slice (some ⟨g, 0, none⟩) s.length c) ∧ wr.ownsRow w.heap.size 66 2 v s.length (flat s) ∧ Below w.heap.size w wr) (fun _ i _ => n - (intOf i).toNat)
 case atStart => exact ⟨0, [], Nat.zero_le _, rfl, Nat.le_refl _, rfl, ⟨_, _, rfl⟩, HO1, hb1⟩
 case round =>
  obtain ⟨k, s, hk, rfl, hsk, HS, HF, hown, hbel⟩ := hrel
  clear hmk HO1 hb1
  have hs1 := hbel.size
  by_cases hlt : k < n
  ·obtain ⟨x, y, hp⟩ := get_lt HL.out hlt
   obtain ⟨b, off, rfl, hc⟩ := (HV.out.below hbel).some (by have := HL.out; omega)
   obtain ⟨c1, c2⟩ := hc k (x, y) hp
   simp only at c1 c2
   have HN : Hid (usable (l.take (k + 1)) = usable (l.take k) ++ (if max x 0 ≤ min y 1114111 then [(max x 0, min y 1114111)] else [])) := by
    unfold Hid; rw [take_get hp, usable_snoc]; rfl
   clear hc hp
   by_cases ht : max x 0 ≤ min y 1114111
   ·have HE : Hid (s ++ [(max x 0, min y 1114111)] = usable (l.take (k + 1))) := by
     unfold Hid; rw [HN.out, if_pos ht, ← HS.out]
    have HW : Hid (∀ j, u3.ownBlock = some j → w.heap.size ≤ j) := fun j e => (hown.lt _ e).1
    clear HN HS
    go_wp2_with (at_builtin; refine wpList_append_own _ rfl _ _ 22 rfl w.heap.size 66 i0 (.agg #[.int .i64 0, .int .i64 0]) 2 16 Tryz.underlying22 hi hz0 hz1 hz2 rfl (by decide) _ _ _ rfl ((hown.alloc _).alloc _) ⟨wr.heap.size + 1, 0, none⟩ 1 1 [.int .i64 (max x 0), .int .i64 (min y 1114111)] rfl rfl ?c1 ?c2 ?c3 ?c4 ?c5 ?_)
    case c1 => exact two_new wr _ _ _ _
    case c2 => intro u hu; simp at hu; rcases hu with rfl | rfl <;> rfl
    case c3 => unfold maxLen; omega
    case c4 => omega
    case c5 => simp; omega
    ·intro v' w2 hown2 hgrow _
     have R2 := Below.grown ((hbel.alloc hs1 (.cells #[.int .i64 (max x 0), .int .i64 (min y 1114111)] 66)).alloc (by simp; omega) (.cells #[.int .i64 (max x 0), .int .i64 (min y 1114111)] 66)) hgrow (by simp; omega) HW.out
     have R1 : w2.ownsRow w.heap.size 66 2 v' (s ++ [(max x 0, min y 1114111)]).length (flat (s ++ [(max x 0, min y 1114111)])) := by
      rw [flat_append, flat_two, List.length_append]; exact hown2
     have R3 : Hid (∃ g c, v' = .slice (some ⟨g, 0, none⟩) (s ++ [(max x 0, min y 1114111)]).length c) := by
      rcases R1.2 with ⟨_, h0⟩ | ⟨g, c, _, e, _⟩
      ·simp at h0
      ·exact ⟨g, c, e⟩
     clear hown2 hgrow hown hbel
     go_wp2
     go_roundw
     case rel => exact ⟨k + 1, s ++ [(max x 0, min y 1114111)], by omega, by go_num, by simp; omega, HE, R3, R1, R2⟩
     case measure => simp [intOf]; omega
   ·have HE : Hid (s = usable (l.take (k + 1))) := by
     unfold Hid; rw [HN.out, if_neg ht, List.append_nil, ← HS.out]
    have R1 := hown.alloc (.cells #[.int .i64 (max x 0), .int .i64 (min y 1114111)] 66)
    have R2 := hbel.alloc hs1 (.cells #[.int .i64 (max x 0), .int .i64 (min y 1114111)] 66)
    clear HN HS
    go_wp2
    go_roundw
    case rel => exact ⟨k + 1, s, by omega, by go_num, by omega, HE, HF, R1, R2⟩
    case measure => simp [intOf]; omega
  ·have HU : Hid (s = usable l) := by
    unfold Hid; rw [HS.out, List.take_of_length_le (by have := HL.out; omega)]
   obtain ⟨g, c, rfl⟩ := HF.out
   have C := sort_any g c w.heap.size s wr hown hs1 (by omega)
   have HO : Hid (wr.ownsRow w.heap.size 66 2 (.slice (some ⟨g, 0, none⟩) s.length c) s.length (flat s)) := hown
   clear HS HF hown
   generalize s.length = m at *
   go_wp2_with fail
   refine C.mono ?_
   rintro e w2 ⟨rfl, t, t1, t2, t3, t4⟩
   have HT : Hid (t.Perm s) := t1
   have HT2 : Hid (t.Pairwise (fun a b : R => a.1 ≤ b.1)) := t2
   have HT3 : Hid (Own w2 w.heap.size (.slice (some ⟨g, 0, none⟩) m c) t) := t3
   clear t1 t2 t3 C
   go_wp2
   go_ret
   exact ⟨_, t, rfl, HT3.out, HU.out ▸ HT.out, HT2.out, hbel.trans t4⟩
end Go.Proofs.YtinlolmjafjhnaaGreatDoor.rng
end

section
/- What ranges.Make answers: the set that a list means. -/
set_option linter.unusedVariables false
set_option linter.unusedSimpArgs false
namespace Go.Proofs.YtinlolmjafjhnaaGreatDoor.rng
open Go.RowKit

theorem one_new (w : World) (x y : Value) (t : TypeId) : ∀ (j : Nat) (u : Value), [x, y][j]? = some u → (w.alloc (Obj.cells #[x, y] t)).cell? ((⟨w.heap.size, 0, none⟩ : Addr).add j) = some u := by
 intro j u hj
 match j, hj with
 | 0, hj => simp at hj; subst hj; simp [Addr.add]
 | 1, hj => simp at hj; subst hj; simp [Addr.add]
 | k + 2, hj => simp at hj
/-- The last range of a row of the call's own. -/
theorem own_last {w : World} {B : Nat} {v : Value} {i : List R} {q : R} (h : w.ownsRow B 66 2 v (i ++ [q]).length (flat (i ++ [q]))) :
  ∃ g c, v = .slice (some ⟨g, 0, none⟩) (i.length + 1) c ∧ B ≤ g ∧ g < w.heap.size ∧ i.length + 1 ≤ c ∧ c ≤ maxLen ∧ w.cell? ⟨g, i.length * 2, none⟩ = some (.int .i64 q.1) ∧ w.cell? ⟨g, i.length * 2 + 1, none⟩ = some (.int .i64 q.2) ∧ w.frozen? ⟨g, i.length * 2 + 1, none⟩ = false := by
 have hl : (i ++ [q]).length = i.length + 1 := by simp
 rcases h.2 with ⟨_, h0⟩ | ⟨g, c, cur, rfl, hg, hgg, hc, hm, _⟩
 ·rw [hl] at h0; omega
 ·have hq : (i ++ [q])[i.length]? = some q := by simp
  obtain ⟨e1, e2⟩ := flat_get _ _ _ hq
  exact ⟨g, c, by rw [hl], hg, (Array.getElem?_eq_some_iff.1 hgg).1, by omega, hm, (h.cellAt _ (by omega)).trans e1, (h.cellAt _ (by omega)).trans e2, h.frozenAt _⟩
theorem flat_set (i : List R) (a b c : Int) : (flat (i ++ [(a, b)])).set (i.length * 2 + 1) (.int .i64 c) = flat (i ++ [(a, c)]) := by
 have hl := flat_length i
 rw [flat_append, flat_append, List.set_append, if_neg (by omega), hl, show i.length * 2 + 1 - i.length * 2 = 1 by omega]; rfl
theorem own_mono {w : World} {base base' : Nat} {e : TypeId} {size : Nat} {v : Value} {n : Nat} {xs : List Value} (h : w.ownsRow base e size v n xs) (hb : base' ≤ base) : w.ownsRow base' e size v n xs :=
 ⟨h.1, h.2.imp id fun ⟨g, c, cur, e1, e2, r⟩ => ⟨g, c, cur, e1, Nat.le_trans hb e2, r⟩⟩
theorem own_setHi {w : World} {B g c : Nat} {i : List R} {a b e : Int} (h : w.ownsRow B 66 2 (.slice (some ⟨g, 0, none⟩) (i.length + 1) c) (i ++ [(a, b)]).length (flat (i ++ [(a, b)]))) :
  (w.setCell ⟨g, i.length * 2 + 1, none⟩ (.int .i64 e)).ownsRow B 66 2 (.slice (some ⟨g, 0, none⟩) (i.length + 1) c) (i ++ [(a, e)]).length (flat (i ++ [(a, e)])) := by
 have hl : (i ++ [(a, b)]).length = i.length + 1 := by simp
 have hl' : (i ++ [(a, e)]).length = i.length + 1 := by simp
 rw [hl] at h
 rw [hl']
 have := (h.stored (i.length * 2 + 1) (.int .i64 e)).1
 rwa [flat_set] at this

set_option maxHeartbeats 2000000 in
theorem make_any (ao : Option Addr) (cap : Nat) (l : List R) (w : World) (hn : l.length ≤ 200000000) (hv : RV w ao l) :
  Calls Tryz.prog 135 #[.slice ao l.length cap] w fun e w' => ∃ v r, e = .returned v ∧ Own w' w.heap.size v r ∧ IsSet r (has l) ∧ Below w.heap.size w w' := by
 obtain ⟨i0, hi, hz0, hz1, hz2⟩ := info_parts infoRange
 have C := rise_any ao cap l w hn hv
 have HN : Hid (l.length ≤ 200000000) := hn
 clear hn hv
 generalize l.length = n0 at C ⊢
 go_enter Tryz.func135, Tryz.ntmps135
 go_wp2_with fail
 refine C.mono ?_
 rintro e w1 ⟨v1, s, rfl, ho1, hp, hs, hb1⟩
 obtain ⟨a1, c1, rfl, hv1, hc1, hm1⟩ := Own.view ho1
 have HV : Hid (RV w1 a1 s) := hv1
 have HI : Hid (MkInv (s.take 0) [] (s.drop 0)) := by
  unfold Hid; rw [List.take_zero, List.drop_zero]
  exact MkInv.start hs (fun y hy => usable_mem y (hp.mem_iff.1 hy))
 have HM : Hid (∀ x, has s x = has l x) := fun x => (has_perm hp x).trans (has_usable l x)
 have hsn : s.length ≤ 200000000 := by have := hp.length_eq; have := usable_length l; have := HN.out; omega
 obtain ⟨m, hl⟩ : ∃ m, s.length = m := ⟨_, rfl⟩
 rw [hl] at hsn hc1 ⊢
 have HL : Hid (s.length = m) := hl
 have hbs := hb1.size
 clear C HN ho1 hp hs hv1 hl hm1 hc1
 go_wp2
 go_loopw [3, 10] (fun v i wr => ∃ (k : Nat) (out : List R), k ≤ m ∧ i = .int .i64 k ∧ out.length ≤ k ∧ Hid (MkInv (s.take k) out (s.drop k)) ∧ wr.ownsRow w1.heap.size 66 2 v out.length (flat out) ∧ Below w1.heap.size w1 wr) (fun _ i _ => m - (intOf i).toNat)
 case atStart => exact ⟨0, [], Nat.zero_le _, rfl, Nat.le_refl _, HI, World.ownsRow_nil _ _ _ _, Below.refl _ _⟩
 case round =>
  obtain ⟨k, out, hk, rfl, hok, HK, hown, hbel⟩ := hrel
  clear HI
  have hs1 := hbel.size
  by_cases hlt : k < m
  ·obtain ⟨x, y, hp⟩ := get_lt HL.out hlt
   obtain ⟨b, off, rfl, hc⟩ := (HV.out.below hbel).some (by have := HL.out; omega)
   obtain ⟨c1, c2⟩ := hc k (x, y) hp
   simp only at c1 c2
   have HD : Hid (MkInv (s.take k) out ((x, y) :: s.drop (k + 1))) := by
    unfold Hid; rw [← drop_get hp]; exact HK.out
   have HT : Hid (s.take (k + 1) = s.take k ++ [(x, y)]) := take_get hp
   have hx := HD.out.good (x, y) (by simp)
   simp only at hx
   obtain ⟨hx0, hxy, hy1⟩ := hx
   clear hc hp HK
   have HW : Hid (∀ j, u3.ownBlock = some j → w1.heap.size ≤ j) := fun j e => (hown.lt _ e).1
   rcases List.eq_nil_or_concat out with rfl | ⟨i, q, rfl⟩
   ·have HE : Hid (MkInv (s.take (k + 1)) ([] ++ [(x, y)]) (s.drop (k + 1))) := by
     unfold Hid; rw [HT.out]; exact HD.out.new (fun i q e => by simp at e)
    have hu3 : u3 = .slice none 0 0 ∨ ∃ g c, u3 = .slice (some ⟨g, 0, none⟩) 0 c := by
     rcases hown.2 with ⟨e, _⟩ | ⟨g, c, _, e, _⟩
     ·exact .inl e
     ·exact .inr ⟨g, c, e⟩
    clear HD HT
    have hl0 : decide ((-1 : Int) < 0) = true := by decide
    obtain ⟨ua, uc, rfl⟩ : ∃ ua uc, u3 = .slice ua 0 uc := by
     rcases hu3 with rfl | ⟨g, c, rfl⟩ <;> exact ⟨_, _, rfl⟩
    clear hu3
    have hown' : wr.ownsRow w1.heap.size 66 2 (.slice ua 0 uc) 0 [] := hown
    clear hown
    go_wp2
    go_quiet (fail)
    generalize hwq : (World.drewN _ _) = wq at *
    have O2 : wq.ownsRow w1.heap.size 66 2 (.slice ua 0 uc) 0 [] := by rw [← hwq]; exact hown'.alloc _
    have B2 : Below w1.heap.size w1 wq := by rw [← hwq]; exact below_drewN (hbel.alloc hs1 _) _
    have f0 : wq.cell? ⟨wr.heap.size, 0, none⟩ = some (.int .i64 x) := by rw [← hwq]; simp
    have f1 : wq.cell? ⟨wr.heap.size, 1, none⟩ = some (.int .i64 y) := by rw [← hwq]; simp
    clear hwq hbel hown' c1 c2
    have hs2 := B2.size
    go_wp2_with (at_builtin; refine wpList_append_own _ rfl _ _ 22 rfl w1.heap.size 66 i0 (.agg #[.int .i64 0, .int .i64 0]) 2 16 Tryz.underlying22 hi hz0 hz1 hz2 rfl (by decide) _ _ _ rfl (O2.alloc _) ⟨wq.heap.size, 0, none⟩ 1 1 [.int .i64 x, .int .i64 y] rfl rfl ?c1 ?c2 ?c3 ?c4 ?c5 ?_)
    case c1 => exact one_new wq _ _ _
    case c2 => intro u hu; simp at hu; rcases hu with rfl | rfl <;> rfl
    case c3 => unfold maxLen; omega
    case c4 => omega
    case c5 => simp; omega
    ·intro v' w2 hown2 hgrow _
     have R2 := Below.grown (B2.alloc hs2 (.cells #[.int .i64 x, .int .i64 y] 66)) hgrow (by simp; omega) HW.out
     have R1 : w2.ownsRow w1.heap.size 66 2 v' ([] ++ [(x, y)]).length (flat ([] ++ [(x, y)])) := hown2
     clear hown2 hgrow
     go_wp2
     go_roundw
     case rel => exact ⟨k + 1, [] ++ [(x, y)], by omega, by go_num, by simp, HE, R1, R2⟩
     case measure => simp [intOf]; omega
   ·rw [List.concat_eq_append] at *
    obtain ⟨q1, q2⟩ := q
    have hcan := (can_snoc _ _ _).1 HD.out.can
    obtain ⟨g, c, rfl, hg1, hg2, hg3, hg4, k1, k2, k3⟩ := own_last hown
    simp only at k1 k2
    have k2' : ∀ o, (wr.alloc o).cell? ⟨g, i.length * 2 + 1, none⟩ = some (.int .i64 q2) := fun o => (World.cell?_alloc_past o g _ hg2).trans k2
    have hq0 : -2 ≤ q2 := by have := nxt_ge i 0 hcan.1; have := hcan.2; simp only at this; omega
    have hq1 : q2 ≤ 1114111 := hcan.2.2.2
    have HO : Hid (wr.ownsRow w1.heap.size 66 2 (.slice (some ⟨g, 0, none⟩) (i.length + 1) c) (i ++ [(q1, q2)]).length (flat (i ++ [(q1, q2)]))) := hown
    have hiL : i.length + 1 ≤ k := by simpa using hok
    clear hown hcan k1 hok
    unfold maxLen at hg4
    obtain ⟨L, hL⟩ : ∃ L, i.length = L := ⟨_, rfl⟩
    rw [hL] at k2 k2' k3 hg3 hiL
    have HLL : Hid (i.length = L) := hL
    rw [hL]
    clear hL
    have hl0 : decide ((L : Int) < 0) = false := decide_eq_false (by omega)
    by_cases ht : q2 + 1 < x
    ·have ht' : decide (q2 + 1 < x) = true := by simpa using ht
     have HE : Hid (MkInv (s.take (k + 1)) ((i ++ [(q1, q2)]) ++ [(x, y)]) (s.drop (k + 1))) := by
      unfold Hid; rw [HT.out]; exact HD.out.new (fun i' q' e => by obtain ⟨_, rfl⟩ := snoc_inj e; exact ht)
     clear HD HT
     go_wp2
     go_quiet (fail)
     generalize hwq : (World.drewN _ _) = wq at *
     have O2 : wq.ownsRow w1.heap.size 66 2 (.slice (some ⟨g, 0, none⟩) (L + 1) c) (i ++ [(q1, q2)]).length (flat (i ++ [(q1, q2)])) := by rw [← hwq, ← HLL.out]; exact HO.out.alloc _
     have B2 : Below w1.heap.size w1 wq := by rw [← hwq]; exact below_drewN (hbel.alloc hs1 _) _
     have f0 : wq.cell? ⟨wr.heap.size, 0, none⟩ = some (.int .i64 x) := by rw [← hwq]; simp
     have f1 : wq.cell? ⟨wr.heap.size, 1, none⟩ = some (.int .i64 y) := by rw [← hwq]; simp
     have hl2 : (i ++ [(q1, q2)]).length = L + 1 := by rw [List.length_append, HLL.out]; rfl
     rw [hl2] at O2
     have HL2 : Hid ((i ++ [(q1, q2)]).length = L + 1) := hl2
     clear hwq hbel HO c1 c2 k2 k2' k3 hl2
     have hs2 := B2.size
     go_wp2_with (at_builtin; refine wpList_append_own _ rfl _ _ 22 rfl w1.heap.size 66 i0 (.agg #[.int .i64 0, .int .i64 0]) 2 16 Tryz.underlying22 hi hz0 hz1 hz2 rfl (by decide) _ _ _ rfl (O2.alloc _) ⟨wq.heap.size, 0, none⟩ 1 1 [.int .i64 x, .int .i64 y] rfl rfl ?c1 ?c2 ?c3 ?c4 ?c5 ?_)
     case c1 => exact one_new wq _ _ _
     case c2 => intro u hu; simp at hu; rcases hu with rfl | rfl <;> rfl
     case c3 => unfold maxLen; omega
     case c4 => omega
     case c5 => simp; omega
     ·intro v' w2 hown2 hgrow _
      have R2 := Below.grown (B2.alloc hs2 (.cells #[.int .i64 x, .int .i64 y] 66)) hgrow (by simp; omega) HW.out
      have R1 : w2.ownsRow w1.heap.size 66 2 v' ((i ++ [(q1, q2)]) ++ [(x, y)]).length (flat ((i ++ [(q1, q2)]) ++ [(x, y)])) := by
       rw [flat_append (i ++ [(q1, q2)]), flat_two, List.length_append, HL2.out]; exact hown2
      have hk1 : ((i ++ [(q1, q2)]) ++ [(x, y)]).length ≤ k + 1 := by rw [List.length_append, HL2.out]; simp; omega
      clear hown2 hgrow
      go_wp2
      go_roundw
      case rel => exact ⟨k + 1, (i ++ [(q1, q2)]) ++ [(x, y)], by omega, by go_num, hk1, HE, R1, R2⟩
      case measure => simp [intOf]; omega
    ·have ht' : decide (q2 + 1 < x) = false := by simpa using ht
     have HE : Hid (MkInv (s.take (k + 1)) (i ++ [(q1, max q2 y)]) (s.drop (k + 1))) := by
      unfold Hid; rw [HT.out]; exact HD.out.join (by simp only; omega)
     have k3' : ∀ o, (wr.alloc o).frozen? ⟨g, L * 2 + 1, none⟩ = false := fun o => by rw [← k3]; exact (World.frozen?_of_block (w := wr) (Below.heap_alloc wr o g hg2))
     clear HD HT
     go_wp2
     go_quiet (fail)
     generalize hwq : (World.drewN _ _) = wq at *
     have O2 : wq.ownsRow w1.heap.size 66 2 (.slice (some ⟨g, 0, none⟩) (i.length + 1) c) (i ++ [(q1, q2)]).length (flat (i ++ [(q1, q2)])) := by rw [← hwq]; exact HO.out.alloc _
     have B2 : Below w1.heap.size w1 wq := by rw [← hwq]; exact below_drewN (hbel.alloc hs1 _) _
     have f0 : wq.cell? ⟨wr.heap.size, 0, none⟩ = some (.int .i64 x) := by rw [← hwq]; simp
     have f1 : wq.cell? ⟨wr.heap.size, 1, none⟩ = some (.int .i64 y) := by rw [← hwq]; simp
     have f2 : wq.cell? ⟨g, L * 2 + 1, none⟩ = some (.int .i64 q2) := by rw [← hwq]; exact k2' _
     have f3 : wq.frozen? ⟨g, L * 2 + 1, none⟩ = false := by rw [← hwq]; exact k3' _
     have R1 : Hid ((wq.setCell ⟨g, L * 2 + 1, none⟩ (.int .i64 (max q2 y))).drew.ownsRow w1.heap.size 66 2 (.slice (some ⟨g, 0, none⟩) (L + 1) c) (i ++ [(q1, max q2 y)]).length (flat (i ++ [(q1, max q2 y)]))) := by
      unfold Hid; rw [← HLL.out]; exact own_setHi (w := wq) O2
     have R2 : Hid (Below w1.heap.size w1 (wq.setCell ⟨g, L * 2 + 1, none⟩ (.int .i64 (max q2 y))).drew) := (B2.setCell hg1 _).drew
     have hk1 : (i ++ [(q1, max q2 y)]).length ≤ k + 1 := by rw [List.length_append, HLL.out]; simp; omega
     have e5 : (0 : Int) ≤ (L : Int) := by omega
     have e6 : (L : Int) < (L : Int) + 1 := by omega
     have e9 : IntKind.i64.wrap (L : Int) = (L : Int) := by rw [IntKind.wrap_i64]; omega
     clear hwq hbel HO O2 B2 c1 c2 k2 k2' k3 k3'
     go_wp2
     go_region_with (fail)
     all_goals go_wp2
     all_goals exact ⟨⟨k + 1, i ++ [(q1, max q2 y)], by omega, by go_num, hk1, HE, R1, R2⟩, by simp [intOf]; omega⟩
  ·go_wp2
   go_ret
   refine ⟨_, out, rfl, own_mono hown hbs, ?_, hb1.trans (hbel.mono hbs)⟩
   have := HK.out
   rw [List.drop_of_length_le (by have := HL.out; omega), List.take_of_length_le (by have := HL.out; omega)] at this
   exact (MkInv.done this).congr (fun x _ => HM.out x)
end Go.Proofs.YtinlolmjafjhnaaGreatDoor.rng
end

section
/- What ranges.edges and ranges.edgeAt answer; ranges.Size. -/
set_option linter.unusedVariables false
set_option linter.unusedSimpArgs false
namespace Go.Proofs.YtinlolmjafjhnaaGreatDoor.rng
open Go.RowKit

/-- The cells of numbers. -/
def cellsI (l : List Int) : List Value := l.map (Value.int .i64)
def OwnI (w : World) (base : Nat) (v : Value) (l : List Int) : Prop := w.ownsRow base 3 1 v l.length (cellsI l)
theorem OwnI.below {w w' : World} {B : Nat} {v : Value} {l : List Int} (h : OwnI w B v l) (hb : Below w.heap.size w w') : OwnI w' B v l := own_below' h hb
/-- The numbers l can be read from the address on. -/
def IV (w : World) (ao : Option Addr) (l : List Int) : Prop :=
 l = [] ∨ ∃ b off, ao = some ⟨b, off, none⟩ ∧ ∀ i x, l[i]? = some x → w.cell? ⟨b, off + i, none⟩ = some (.int .i64 x)
theorem IV.below {w w' : World} {ao : Option Addr} {l : List Int} (h : IV w ao l) (hb : Below w.heap.size w w') : IV w' ao l := by
 rcases h with h | ⟨b, off, rfl, h⟩
 ·exact .inl h
 ·exact .inr ⟨b, off, rfl, fun i p hi => (hb.cell (World.block_lt_of_cell? w _ (h i p hi))).trans (h i p hi)⟩
theorem IV.some {w : World} {ao : Option Addr} {l : List Int} (h : IV w ao l) (h0 : 0 < l.length) : ∃ b off, ao = some ⟨b, off, none⟩ ∧ ∀ i x, l[i]? = Option.some x → w.cell? ⟨b, off + i, none⟩ = Option.some (.int .i64 x) := by
 rcases h with rfl | h
 ·simp at h0
 ·exact h
theorem OwnI.view {w : World} {B : Nat} {v : Value} {l : List Int} (h : OwnI w B v l) : ∃ ao cap, v = .slice ao l.length cap ∧ IV w ao l ∧ l.length ≤ cap ∧ cap ≤ maxLen := by
 rcases h.2 with ⟨rfl, h0⟩ | ⟨g, cap, cur, rfl, hg, hgg, hc, hm, hs, ht⟩
 ·exact ⟨none, 0, by rw [h0], .inl (List.eq_nil_of_length_eq_zero h0), by omega, by unfold maxLen; omega⟩
 ·refine ⟨_, cap, rfl, .inr ⟨g, 0, rfl, fun i x hi => ?_⟩, hc, hm⟩
  have hil : i < l.length := (List.getElem?_eq_some_iff.1 hi).1
  have h' : w.ownsRow B 3 1 (.slice (some ⟨g, 0, none⟩) l.length cap) l.length (cellsI l) := h
  rw [Nat.zero_add]
  refine (h'.cellAt _ (by omega)).trans ?_
  unfold cellsI
  rw [List.getElem?_map, hi]; rfl

theorem two_int (w : World) (o : Obj) (x y : Value) (t : TypeId) : ∀ (j : Nat) (u : Value), [x, y][j]? = some u → ((w.alloc o).alloc (Obj.cells #[x, y] t)).cell? ((⟨w.heap.size + 1, 0, none⟩ : Addr).add j) = some u := two_new w o x y t

set_option maxHeartbeats 1000000 in
theorem edges_any (ao : Option Addr) (cap : Nat) (l : List R) (w : World) (hn : l.length ≤ 1000000) (hv : RV w ao l) :
  Calls Tryz.prog 223 #[.slice ao l.length cap] w fun e w' => ∃ v r, e = .returned v ∧ OwnI w' w.heap.size v (ed r) ∧ IsSet r (has l) ∧ Below w.heap.size w w' := by
 obtain ⟨i0, hi, hz0, hz1, hz2⟩ := info_parts infoInt
 have C := make_any ao cap l w (by omega) hv
 clear hn hv
 generalize l.length = n0 at C ⊢
 go_enter Tryz.func223, Tryz.ntmps223
 go_wp2_with fail
 refine C.mono ?_
 rintro e w1 ⟨v1, s, rfl, ho1, hset, hb1⟩
 obtain ⟨a1, c1, rfl, hv1, hc1, hm1⟩ := Own.view ho1
 have HV : Hid (RV w1 a1 s) := hv1
 have HS : Hid (IsSet s (has l)) := hset
 have HG : Hid (∀ p ∈ s, 0 ≤ p.1 ∧ p.1 ≤ p.2 ∧ p.2 ≤ 1114111) := can_mem (Int.le_refl _) hset.1
 have hsn : s.length ≤ 1000000 := by have := can_len hset.1; omega
 obtain ⟨m, hl⟩ : ∃ m, s.length = m := ⟨_, rfl⟩
 rw [hl] at hsn ⊢
 have HL : Hid (s.length = m) := hl
 have hbs := hb1.size
 clear C ho1 hset hv1 hl hm1 hc1
 go_wp2
 go_loopw [3, 9] (fun v i wr => ∃ (k : Nat), k ≤ m ∧ i = .int .i64 k ∧ wr.ownsRow w1.heap.size 3 1 v (2 * k) (cellsI (ed (s.take k))) ∧ Below w1.heap.size w1 wr) (fun _ i _ => m - (intOf i).toNat)
 case atStart => exact ⟨0, Nat.zero_le _, rfl, World.ownsRow_nil _ _ _ _, Below.refl _ _⟩
 case round =>
  obtain ⟨k, hk, rfl, hown, hbel⟩ := hrel
  have hs1 := hbel.size
  by_cases hlt : k < m
  ·obtain ⟨x, y, hp⟩ := get_lt HL.out hlt
   obtain ⟨b, off, rfl, hc⟩ := (HV.out.below hbel).some (by have := HL.out; omega)
   obtain ⟨c1, c2⟩ := hc k (x, y) hp
   simp only at c1 c2
   have hx := HG.out (x, y) (List.mem_of_getElem? hp)
   simp only at hx
   obtain ⟨hx0, hxy, hy1⟩ := hx
   have HT : Hid (cellsI (ed (s.take (k + 1))) = cellsI (ed (s.take k)) ++ [.int .i64 x, .int .i64 (y + 1)]) := by
    unfold Hid; rw [take_get hp, ed_snoc]; simp [cellsI]
   clear hc hp
   have HW : Hid (∀ j, u3.ownBlock = some j → w1.heap.size ≤ j) := fun j e => (hown.lt _ e).1
   go_wp2_with (at_builtin; refine wpList_append_own _ rfl _ _ 37 rfl w1.heap.size 3 i0 (.int .i64 0) 1 8 Tryz.underlying37 hi hz0 hz1 hz2 rfl (by decide) _ _ _ rfl ((hown.alloc _).alloc _) ⟨wr.heap.size + 1, 0, none⟩ 2 2 [.int .i64 x, .int .i64 (y + 1)] rfl rfl ?c1 ?c2 ?c3 ?c4 ?c5 ?_)
   case c1 => exact two_int wr _ _ _ _
   case c2 => intro u hu; simp at hu; rcases hu with rfl | rfl <;> rfl
   case c3 => unfold maxLen; omega
   case c4 => omega
   case c5 => simp; omega
   ·intro v' w2 hown2 hgrow _
    have R2 := Below.grown ((hbel.alloc hs1 (.cells #[.int .i64 x, .int .i64 y] 66)).alloc (by simp; omega) (.cells #[.int .i64 x, .int .i64 (y + 1)] 3)) hgrow (by simp; omega) HW.out
    have R1 : w2.ownsRow w1.heap.size 3 1 v' (2 * (k + 1)) (cellsI (ed (s.take (k + 1)))) := by
     rw [HT.out]; exact hown2
    clear hown2 hgrow hown hbel
    go_wp2
    go_roundw
    case rel => exact ⟨k + 1, by omega, by go_num, R1, R2⟩
    case measure => simp [intOf]; omega
  ·go_wp2
   go_ret
   have e1 : s.take k = s := List.take_of_length_le (by have := HL.out; omega)
   rw [e1] at hown
   have e2 : (ed s).length = 2 * k := by rw [ed_length, HL.out]; omega
   refine ⟨_, s, rfl, ?_, HS.out, hb1.trans (hbel.mono hbs)⟩
   unfold OwnI; rw [e2]
   exact own_mono hown hbs

theorem eat_get {l : List Int} {i : Nat} {x : Int} (h : l[i]? = some x) : eat l i = x := by unfold eat; rw [List.getD_eq_getElem?_getD, h]; rfl
theorem edgeAt_any (ao : Option Addr) (cap : Nat) (l : List Int) (i : Nat) (w : World) (hn : l.length ≤ 4000000) (hi : i ≤ l.length) (hv : IV w ao l) :
  Calls Tryz.prog 224 #[.slice ao l.length cap, .int .i64 i] w fun e w' => e = .returned (.int .i64 (eat l i)) ∧ w' = w := by
 rcases Nat.lt_or_ge i l.length with h | h
 ·obtain ⟨b, off, rfl, hc⟩ := hv.some (by omega)
  have hx : l[i]? = some l[i] := List.getElem?_eq_getElem h
  have hcell := hc i _ hx
  rw [eat_get hx]
  generalize l[i] = x at *
  generalize l.length = n at *
  have hne : ((i : Int) == (n : Int)) = false := by simp; omega
  clear hc hx hv
  go_enter Tryz.func224, Tryz.ntmps224
  go_wp2
  go_ret
  exact ⟨rfl, rfl⟩
 ·have e : i = l.length := by omega
  rw [eat_end h, e]
  clear hv hi h e
  generalize l.length = n at *
  have hne : ((n : Int) == (n : Int)) = true := by simp
  go_enter Tryz.func224, Tryz.ntmps224
  go_wp2
  go_ret
  exact ⟨rfl, rfl⟩

end Go.Proofs.YtinlolmjafjhnaaGreatDoor.rng
end
