/- Texts that the proof leans on, one behind the other. -/
import Derived.Test.YtochajmhljipbaaGreatDoorBdRng5
import Derived.Test.YtochajmhljipbaaGreatDoorBdRng4
import Derived.Lib.SliceRun
import Derived.Test.YtochajmhljipbaaGreatDoorRows
import Derived.ProofKit
import Derived.OpenShut
import Derived.Deep.Strs

section
/- What the document's Make, Union, Meet, Minus, Xor, Not, Can and Size answer. -/
set_option linter.unusedVariables false
set_option linter.unusedSimpArgs false
namespace Go.Proofs.YtochajmhljipbaaGreatDoor.rng
open Go.RowKit

theorem rmake_any (a1 : Option Addr) (c1 : Nat) (l : List R) (w : World) (hn : l.length ≤ 1000000) (h1 : RV w a1 l) (n1 : a1 = none → c1 = 0) :
    Calls Tryz.prog 53 #[.slice a1 l.length c1] w fun e w' => ∃ v r, e = .returned v ∧ Own w' w.heap.size v r ∧ IsSet r (has l) ∧ Below w.heap.size w w' := by
  have C := both_any a1 none c1 0 l [] 0 w (by omega) hn (by simp) h1 (RV.nil _ _) n1 (fun _ => rfl)
  have e0 : ([] : List R).length = 0 := rfl
  rw [e0] at C
  clear hn h1 n1 e0
  generalize l.length = n1 at *
  go_enter Tryz.func53, Tryz.ntmps53
  go_wp2_with fail
  refine C.mono ?_
  rintro e w1 ⟨v, r, rfl, ho, hs, hb⟩
  go_wp2
  go_ret
  exact ⟨v, r, rfl, ho, hs.congr (fun x _ => by simp [way, has_nil]), hb⟩
theorem runion_any (a1 a2 : Option Addr) (c1 c2 : Nat) (l m : List R) (w : World) (hn : l.length ≤ 1000000) (hm : m.length ≤ 1000000) (h1 : RV w a1 l) (h2 : RV w a2 m) (n1 : a1 = none → c1 = 0) (n2 : a2 = none → c2 = 0) :
    Calls Tryz.prog 55 #[.slice a1 l.length c1, .slice a2 m.length c2] w fun e w' => ∃ v r, e = .returned v ∧ Own w' w.heap.size v r ∧ IsSet r (fun x => has l x || has m x) ∧ Below w.heap.size w w' := by
  have C := both_any a1 a2 c1 c2 l m 0 w (by omega) hn hm h1 h2 n1 n2
  clear hn hm h1 h2 n1 n2
  generalize l.length = n1 at *
  generalize m.length = n2 at *
  go_enter Tryz.func55, Tryz.ntmps55
  go_wp2_with fail
  refine C.mono ?_
  rintro e w1 ⟨v, r, rfl, ho, hs, hb⟩
  go_wp2
  go_ret
  exact ⟨v, r, rfl, ho, hs, hb⟩
theorem rminus_any (a1 a2 : Option Addr) (c1 c2 : Nat) (l m : List R) (w : World) (hn : l.length ≤ 1000000) (hm : m.length ≤ 1000000) (h1 : RV w a1 l) (h2 : RV w a2 m) (n1 : a1 = none → c1 = 0) (n2 : a2 = none → c2 = 0) :
    Calls Tryz.prog 23 #[.slice a1 l.length c1, .slice a2 m.length c2] w fun e w' => ∃ v r, e = .returned v ∧ Own w' w.heap.size v r ∧ IsSet r (fun x => has l x && !has m x) ∧ Below w.heap.size w w' := by
  have C := both_any a1 a2 c1 c2 l m 2 w (by omega) hn hm h1 h2 n1 n2
  clear hn hm h1 h2 n1 n2
  generalize l.length = n1 at *
  generalize m.length = n2 at *
  go_enter Tryz.func23, Tryz.ntmps23
  go_wp2_with fail
  refine C.mono ?_
  rintro e w1 ⟨v, r, rfl, ho, hs, hb⟩
  go_wp2
  go_ret
  exact ⟨v, r, rfl, ho, hs, hb⟩
def rall : List R := [(0, 1114111)]
theorem has_rall (x : Int) : has rall x = code x := by
  unfold rall; rw [has_cons, has_nil, Bool.or_false]
  cases h : code x
  · rfl
  · rw [(inP_iff (0, 1114111) x).2 ((code_iff x).1 h)]; rfl
theorem rv_one (w : World) (x y : Int) : RV (w.alloc (.cells #[.int .i64 x, .int .i64 y] 39)) (some ⟨w.heap.size, 0, none⟩) [(x, y)] := by
  refine .inr ⟨_, _, rfl, fun i p hi => ?_⟩
  have h0 : i = 0 := by have := (List.getElem?_eq_some_iff.1 hi).1; simp at this; exact this
  subst h0
  simp at hi
  subst hi
  simp
/-- Is the list the set of itself. -/
theorem canB_of {l s : List R} (h : IsSet s (has l)) : canB 0 l = decide (s = l) := by
  rw [Bool.eq_iff_iff, canB_iff, decide_eq_true_eq]
  exact ⟨fun hc => h.eq (IsSet.self hc) (fun _ _ => rfl), fun e => e ▸ h.1⟩
theorem take_ne {l s : List R} {k : Nat} {a b : R} (h1 : l[k]? = some a) (h2 : s[k]? = some b) (h : b ≠ a) : s ≠ l := fun e => by
  rw [e, h1] at h2; cases h2; exact h rfl

set_option maxRecDepth 10000 in
set_option maxHeartbeats 1000000 in
theorem rcan_any (ao : Option Addr) (cap : Nat) (l : List R) (w : World) (hn : l.length ≤ 1000000) (hv : RV w ao l) (n1 : ao = none → cap = 0) :
    Calls Tryz.prog 24 #[.slice ao l.length cap] w fun e w' => e = .returned (.bool (canB 0 l)) ∧ Below w.heap.size w w' := by
  have C := rmake_any ao cap l w hn hv n1
  have HV0 : Hid (RV w ao l) := hv
  obtain ⟨n0, hl0⟩ : ∃ n, l.length = n := ⟨_, rfl⟩
  rw [hl0] at hn C ⊢
  have HL0 : Hid (l.length = n0) := hl0
  clear hv n1 hl0
  go_enter Tryz.func24, Tryz.ntmps24
  go_wp2_with fail
  refine C.mono ?_
  rintro e w1 ⟨v1, s, rfl, ho1, hset, hb1⟩
  obtain ⟨a1, c1, rfl, hv1, hc1, hm1⟩ := Own.view ho1
  have HV : Hid (RV w1 a1 s) := hv1
  have HB : Hid (canB 0 l = decide (s = l)) := canB_of hset
  have hsn : s.length ≤ 1000000 := by have := can_len hset.1; omega
  obtain ⟨m, hl⟩ : ∃ m, s.length = m := ⟨_, rfl⟩
  rw [hl] at hsn ⊢
  have HL : Hid (s.length = m) := hl
  have hbs := hb1.size
  clear C ho1 hset hv1 hl hm1 hc1
  by_cases hne : m = n0
  · subst hne
    have hnn : ((m : Int) != (m : Int)) = false := by simp
    go_wp2
    go_loopw [14] (fun i wr => ∃ (k : Nat), k ≤ m ∧ i = .int .i64 k ∧ Hid (s.take k = l.take k) ∧ Below w1.heap.size w1 wr) (fun i _ => m - (intOf i).toNat)
    case atStart => exact ⟨0, Nat.zero_le _, rfl, rfl, Below.refl _ _⟩
    case round =>
      obtain ⟨k, hk, rfl, HT, hbel⟩ := hrel
      have hs1 := hbel.size
      by_cases hlt : k < m
      · obtain ⟨x, y, hp⟩ := get_lt HL.out hlt
        obtain ⟨x', y', hp'⟩ := get_lt HL0.out hlt
        obtain ⟨b, off, rfl, hc⟩ := (HV.out.below hbel).some (by have := HL.out; omega)
        obtain ⟨b', off', rfl, hc'⟩ := (HV0.out.below (hb1.trans (hbel.mono hbs))).some (by have := HL0.out; omega)
        obtain ⟨c1, c2⟩ := hc k (x, y) hp
        obtain ⟨c3, c4⟩ := hc' k (x', y') hp'
        simp only at c1 c2 c3 c4
        have HT2 : Hid (s.take (k + 1) = s.take k ++ [(x, y)]) := take_get hp
        have HT3 : Hid (l.take (k + 1) = l.take k ++ [(x', y')]) := take_get hp'
        by_cases hxy : x = x' ∧ y = y'
        · obtain ⟨rfl, rfl⟩ := hxy
          have HE : Hid (s.take (k + 1) = l.take (k + 1)) := by unfold Hid; rw [HT2.out, HT3.out, HT.out]
          clear hc hc' hp hp' HT HT2 HT3
          go_wp2
          go_quiet (fail)
          go_wp2
          go_roundw
          case rel => exact ⟨k + 1, by omega, by go_num, HE, below_drewN hbel _⟩
          case measure => simp [intOf]; omega
        · have HE : Hid (canB 0 l = false) := by
            unfold Hid; rw [HB.out]
            exact decide_eq_false (take_ne hp' hp (fun e => hxy (by cases e; exact ⟨rfl, rfl⟩)))
          clear hc hc' hp hp' HT HT2 HT3
          by_cases hxx : x' = x
          · have hyy : (y' == y) = false := by
              have : y' ≠ y := fun e => hxy ⟨hxx.symm, e.symm⟩
              simpa using this
            subst hxx
            clear hxy
            go_wp2
            go_quiet (fail)
            go_wp2
            go_ret
            exact ⟨ret_bool HE.out.symm, hb1.trans (below_drewN (hbel.mono hbs) _)⟩
          · have hxx' : (x' == x) = false := by simpa using hxx
            clear hxy hxx
            go_wp2
            go_quiet (fail)
            go_wp2
            go_ret
            exact ⟨ret_bool HE.out.symm, hb1.trans (below_drewN (hbel.mono hbs) _)⟩
      · go_wp2
        go_ret
        have e1 : s.take k = s := List.take_of_length_le (by have := HL.out; omega)
        have e2 : l.take k = l := List.take_of_length_le (by have := HL0.out; omega)
        refine ⟨ret_bool ?_, hb1.trans (hbel.mono hbs)⟩
        rw [HB.out, decide_eq_true (by rw [← e1, HT.out, e2])]
  · have hnn : ((m : Int) != (n0 : Int)) = true := by simp; omega
    have HE : Hid (canB 0 l = false) := by
      unfold Hid; rw [HB.out]
      exact decide_eq_false (fun e => hne (by rw [← HL.out, e, HL0.out]))
    go_wp2
    go_ret
    exact ⟨ret_bool HE.out.symm, hb1⟩
end Go.Proofs.YtochajmhljipbaaGreatDoor.rng
end

section
/- The calls of ranges and of the document's answer, at lists wherever they lie; slices.Clone; awake. -/
set_option linter.unusedVariables false
set_option linter.unusedSimpArgs false
namespace Go.Proofs.YtochajmhljipbaaGreatDoor.rng
open Go.RowKit

/-- v is a slice that reads as the ranges l. -/
def Sl (w : World) (v : Value) (l : List R) : Prop := ∃ ao cap, v = .slice ao l.length cap ∧ RV w ao l ∧ (ao = none → cap = 0)
theorem Sl.below {w w' : World} {v : Value} {l : List R} (h : Sl w v l) (hb : Below w.heap.size w w') : Sl w' v l := by
  obtain ⟨ao, cap, e, hv, h0⟩ := h
  exact ⟨ao, cap, e, hv.below hb, h0⟩
theorem Own.sl {w : World} {B : Nat} {v : Value} {l : List R} (h : Own w B v l) : Sl w v l := by
  obtain ⟨ao, cap, e, hv, _, _⟩ := h.view
  refine ⟨ao, cap, e, hv, fun h0 => ?_⟩
  rcases h.2 with ⟨e2, _⟩ | ⟨g, c, cur, e2, _⟩
  · rw [e2] at e; injection e with e3 e4 e5; exact e5.symm
  · rw [e2] at e; injection e with e3 e4 e5; rw [h0] at e3; cases e3

theorem make_s (v : Value) (l : List R) (w : World) (hs : Sl w v l) (hn : l.length ≤ 1000000) :
    Calls Tryz.prog 51 #[v] w fun e w' => ∃ v' r, e = .returned v' ∧ Sl w' v' r ∧ IsSet r (has l) ∧ Below w.heap.size w w' := by
  obtain ⟨ao, cap, rfl, hv, h0⟩ := hs
  refine (make_any ao cap l w (by omega) hv).mono ?_
  rintro e w' ⟨v', r, he, ho, hr, hb⟩
  exact ⟨v', r, he, ho.sl, hr, hb⟩
theorem rmake_s (v : Value) (l : List R) (w : World) (hs : Sl w v l) (hn : l.length ≤ 1000000) :
    Calls Tryz.prog 53 #[v] w fun e w' => ∃ v' r, e = .returned v' ∧ Sl w' v' r ∧ IsSet r (has l) ∧ Below w.heap.size w w' := by
  obtain ⟨ao, cap, rfl, hv, h0⟩ := hs
  refine (rmake_any ao cap l w hn hv h0).mono ?_
  rintro e w' ⟨v', r, he, ho, hr, hb⟩
  exact ⟨v', r, he, ho.sl, hr, hb⟩
theorem runion_s (v1 v2 : Value) (l m : List R) (w : World) (h1 : Sl w v1 l) (h2 : Sl w v2 m) (hn : l.length ≤ 1000000) (hm : m.length ≤ 1000000) :
    Calls Tryz.prog 55 #[v1, v2] w fun e w' => ∃ v' r, e = .returned v' ∧ Sl w' v' r ∧ IsSet r (fun x => has l x || has m x) ∧ Below w.heap.size w w' := by
  obtain ⟨a1, c1, rfl, k1, z1⟩ := h1
  obtain ⟨a2, c2, rfl, k2, z2⟩ := h2
  refine (runion_any a1 a2 c1 c2 l m w hn hm k1 k2 z1 z2).mono ?_
  rintro e w' ⟨v', r, he, ho, hr, hb⟩
  exact ⟨v', r, he, ho.sl, hr, hb⟩
theorem meet_s (v1 v2 : Value) (l m : List R) (w : World) (h1 : Sl w v1 l) (h2 : Sl w v2 m) (hn : l.length ≤ 1000000) (hm : m.length ≤ 1000000) :
    Calls Tryz.prog 49 #[v1, v2] w fun e w' => ∃ v' r, e = .returned v' ∧ Sl w' v' r ∧ IsSet r (fun x => has l x && has m x) ∧ Below w.heap.size w w' := by
  obtain ⟨a1, c1, rfl, k1, z1⟩ := h1
  obtain ⟨a2, c2, rfl, k2, z2⟩ := h2
  refine (meet_any a1 a2 c1 c2 l m w hn hm k1 k2).mono ?_
  rintro e w' ⟨v', r, he, ho, hr, hb⟩
  exact ⟨v', r, he, ho.sl, hr, hb⟩
theorem minus_s (v1 v2 : Value) (l m : List R) (w : World) (h1 : Sl w v1 l) (h2 : Sl w v2 m) (hn : l.length ≤ 1000000) (hm : m.length ≤ 1000000) :
    Calls Tryz.prog 47 #[v1, v2] w fun e w' => ∃ v' r, e = .returned v' ∧ Sl w' v' r ∧ IsSet r (fun x => has l x && !has m x) ∧ Below w.heap.size w w' := by
  obtain ⟨a1, c1, rfl, k1, z1⟩ := h1
  obtain ⟨a2, c2, rfl, k2, z2⟩ := h2
  refine (minus_any a1 a2 c1 c2 l m w hn hm k1 k2).mono ?_
  rintro e w' ⟨v', r, he, ho, hr, hb⟩
  exact ⟨v', r, he, ho.sl, hr, hb⟩
theorem rminus_s (v1 v2 : Value) (l m : List R) (w : World) (h1 : Sl w v1 l) (h2 : Sl w v2 m) (hn : l.length ≤ 1000000) (hm : m.length ≤ 1000000) :
    Calls Tryz.prog 23 #[v1, v2] w fun e w' => ∃ v' r, e = .returned v' ∧ Sl w' v' r ∧ IsSet r (fun x => has l x && !has m x) ∧ Below w.heap.size w w' := by
  obtain ⟨a1, c1, rfl, k1, z1⟩ := h1
  obtain ⟨a2, c2, rfl, k2, z2⟩ := h2
  refine (rminus_any a1 a2 c1 c2 l m w hn hm k1 k2 z1 z2).mono ?_
  rintro e w' ⟨v', r, he, ho, hr, hb⟩
  exact ⟨v', r, he, ho.sl, hr, hb⟩
theorem has_s (v : Value) (l : List R) (x : Int) (w : World) (hs : Sl w v l) (hn : l.length ≤ 1000000) :
    Calls Tryz.prog 52 #[v, .int .i64 x] w fun e w' => e = .returned (.bool (has l x)) ∧ Below w.heap.size w w' := by
  obtain ⟨ao, cap, rfl, hv, h0⟩ := hs
  exact has_any ao cap l x w (by omega) hv
theorem rhas_s (v : Value) (l : List R) (x : Int) (w : World) (hs : Sl w v l) (hn : l.length ≤ 1000000) :
    Calls Tryz.prog 25 #[v, .int .i64 x] w fun e w' => e = .returned (.bool (has l x)) ∧ Below w.heap.size w w' := by
  obtain ⟨ao, cap, rfl, hv, h0⟩ := hs
  exact rhas_any ao cap l x w (by omega) hv
theorem rcan_s (v : Value) (l : List R) (w : World) (hs : Sl w v l) (hn : l.length ≤ 1000000) :
    Calls Tryz.prog 24 #[v] w fun e w' => e = .returned (.bool (canB 0 l)) ∧ Below w.heap.size w w' := by
  obtain ⟨ao, cap, rfl, hv, h0⟩ := hs
  exact rcan_any ao cap l w hn hv h0
theorem equal_s (v1 v2 : Value) (l m : List R) (w : World) (h1 : Sl w v1 l) (h2 : Sl w v2 m) (hn : l.length ≤ 1000000) (e : l = m) :
    Calls Tryz.prog 20 #[v1, v2] w fun e w' => e = .returned (.bool true) ∧ Below w.heap.size w w' := by
  subst e
  obtain ⟨a1, c1, rfl, k1, z1⟩ := h1
  obtain ⟨a2, c2, rfl, k2, z2⟩ := h2
  exact equal_same a1 a2 c1 c2 l w (by omega) k1 k2

set_option maxHeartbeats 1000000 in
set_option maxRecDepth 1000000 in
theorem clone_s (v : Value) (l : List R) (w : World) (hs : Sl w v l) (hn : l.length ≤ 1000000) :
    Calls Tryz.prog 19 #[v] w fun e w' => ∃ v', e = .returned v' ∧ Sl w' v' l ∧ Below w.heap.size w w' := by
  obtain ⟨i0, hi, hz0, hz1, hz2⟩ := info_parts infoRange
  obtain ⟨ao, cap, rfl, hv, h0⟩ := hs
  cases ao with
  | none =>
    obtain rfl := rv_nil hv
    obtain rfl := h0 rfl
    clear hv h0
    go_enter Tryz.func19, Tryz.ntmps19
    go_wp2_with fail
    rw [Lib.run_eql_slice_nil _ _ _ _ _ _ _ _ Tryz.underlying36]
    go_wp2
    go_ret
    exact ⟨_, rfl, ⟨none, 0, rfl, RV.nil _ _, fun _ => rfl⟩, Below.refl _ _⟩
  | some x =>
    have HV : Hid (∀ (j : Nat) u, (flat l)[j]? = some u → w.cell? (x.add j) = some u) := rv_news hv
    obtain ⟨n, hl⟩ : ∃ n, l.length = n := ⟨_, rfl⟩
    have HL : Hid (l.length = n) := hl
    rw [hl] at hn ⊢
    clear hv h0 hl
    go_enter Tryz.func19, Tryz.ntmps19
    go_wp2_with fail
    rw [Lib.run_eql_slice_nil _ _ _ _ _ _ _ _ Tryz.underlying36]
    go_wp2_with (at_builtin; refine wpList_append_own _ rfl _ _ 36 rfl w.heap.size 39 i0 (.agg #[.int .i64 0, .int .i64 0]) 2 16 Tryz.underlying36 hi hz0 hz1 hz2 rfl (by decide) _ _ _ rfl (World.ownsRow_made w #[] 0 (Nat.le_refl _) (by decide) rfl) x n cap (flat l) rfl (by rw [flat_length, HL.out]) (fun j u hj => (World.grownBy_alloc w _ none).cell (HV.out j u hj) (by simp)) (flat_one l) (by unfold maxLen; omega) (by omega) (by simp) ?_)
    intro v' w3 hown hgrow _
    have bb : Below w.heap.size w w3 := ((Below.refl w.heap.size w).alloc (Nat.le_refl _) _).grown hgrow (by simp) (fun k e => by cases e; exact Nat.le_refl _)
    have HO : Hid (Own w3 w.heap.size v' l) := by
      unfold Hid Own; rw [HL.out]; simpa using hown
    clear hgrow hown HV
    go_wp2
    go_ret
    exact ⟨_, rfl, HO.out.sl, bb⟩

theorem rv_two (w : World) (x y a b : Int) : RV (w.alloc (.cells #[.int .i64 x, .int .i64 y, .int .i64 a, .int .i64 b] 39)) (some ⟨w.heap.size, 0, none⟩) [(x, y), (a, b)] := by
  refine .inr ⟨_, _, rfl, fun i p hi => ?_⟩
  match i, hi with
  | 0, hi => simp at hi; subst hi; simp
  | 1, hi => simp at hi; subst hi; simp
  | k + 2, hi => simp at hi
theorem awake_set {r : List R} (h : IsSet r (has [(8, 9), (5, 7)])) : r = [(5, 9)] := by
  refine h.eq (IsSet.self (r := [(5, 9)]) ⟨by decide, by decide, by decide, trivial⟩) (fun x _ => ?_)
  rw [Bool.eq_iff_iff, has_iff, has_iff]
  simp only [List.mem_cons, List.mem_nil_iff, or_false, exists_eq_or_imp, exists_eq_left, code_iff]
  omega
/-- A list of ranges that came in. -/
def Arg (w : World) (v : Value) (l : List R) : Prop := ∃ ao cap, v = .slice ao l.length cap ∧ RV w ao l ∧ (ao = none → cap = 0) ∧ l.length ≤ cap ∧ cap ≤ 9223372036854775807
end Go.Proofs.YtochajmhljipbaaGreatDoor.rng
end

section
/- How a slice of ranges that came in as an argument reads. -/
set_option linter.unusedVariables false
set_option linter.unusedSimpArgs false
namespace Go.Proofs.YtochajmhljipbaaGreatDoor.rng
open Go.ChangeShapes Go.WideShapes Go.ChangeAt Go.RowKit Go.Deep

set_option maxRecDepth 100000 in
theorem open_ranges {H : Type} {enc : TypeId × Value → H} {W : World} {base : Nat} {v : Value} {d : DataW H} {p : List MemPlace}
    (hv : Value.okWide Tryz.prog W .any base 36 v) (h : DataW.Trod enc Tryz.prog W 0 (fun _ => true) true 36 v d p) :
    ∃ l : List R, Arg W v l := by
  obtain ⟨ao, n, cap, rfl⟩ := okWide_slice Tryz.underlying36 hv
  obtain ⟨fuel, hf⟩ := h
  rcases open_slice Tryz.underlying36 hf with ⟨hcs, _⟩ | ⟨a, len, cap', m, k, D, Pl, hcs, _, hl, hm, hmm, hx, hel⟩
  · simp [Value.cells] at hcs
    obtain ⟨rfl, rfl, rfl⟩ := hcs
    exact ⟨[], none, 0, rfl, RV.nil _ _, fun _ => rfl, by simp, by omega⟩
  · simp [Value.cells] at hcs
    obtain ⟨rfl, rfl, rfl⟩ := hcs
    simp at hmm
    subst hmm
    have c2 : Tryz.prog.cellsOf 39 = 2 := by kernel_rfl
    have each : ∀ i, i < n → ∃ r : R, W.cell? (a.add (i * 2)) = some (.int .i64 r.1) ∧ W.cell? (a.add (i * 2 + 1)) = some (.int .i64 r.2) := by
      intro i hi
      obtain ⟨cs', h1, h2⟩ := hel i (by omega)
      rw [c2] at h1
      obtain ⟨_, hlen, hcell⟩ := World.cells?_some h1
      obtain ⟨y0, y1, kk, hy, _, g0, g1⟩ := trod_struct2 Tryz.underlying39 h2
      match cs', hlen with
      | [v0, v1], _ =>
        have e0 := hcell 0 (by omega)
        have e1 := hcell 1 (by omega)
        rw [Go.Deep.add_add] at e0 e1
        have ci : Tryz.prog.cellsOf 3 = 1 := by kernel_rfl
        simp [ci] at g0 g1
        obtain ⟨x0, hv0, hy0, _⟩ := DataW.trod_int Tryz.underlying3 g0
        obtain ⟨x1, hv1, hy1, _⟩ := DataW.trod_int Tryz.underlying3 g1
        obtain rfl : v0 = .int .i64 x0 := by simpa using hv0
        obtain rfl : v1 = .int .i64 x1 := by simpa using hv1
        exact ⟨(x0, x1), by simpa using e0, by simpa using e1⟩
    obtain ⟨Rf, hR⟩ := choose_lt each
    unfold maxLen at hm
    refine ⟨(List.range n).map Rf, some a, _, by rw [List.length_map, List.length_range], ?_, fun e => (by cases e), by simpa using hl, by omega⟩
    rcases Nat.eq_zero_or_pos n with h0 | h0
    · subst h0; exact RV.nil _ _
    · obtain ⟨b, off, spot⟩ := a
      have hspot : spot = none := by simpa [Addr.add] using World.cell?_spot (hR 0 h0).1
      subst hspot
      refine .inr ⟨b, off, rfl, fun i r hi => ?_⟩
      rw [List.getElem?_map] at hi
      have hil : i < n := by
        rcases Nat.lt_or_ge i n with h' | h'
        · exact h'
        · rw [List.getElem?_eq_none (by simpa using h')] at hi; cases hi
      rw [List.getElem?_range hil] at hi
      obtain rfl : Rf i = r := by simpa using hi
      obtain ⟨q1, q2⟩ := hR i hil
      rw [Addr.add_lit] at q1 q2
      exact ⟨q1, q2⟩
end Go.Proofs.YtochajmhljipbaaGreatDoor.rng
end
