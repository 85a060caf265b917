/- Texts that the proof leans on, one behind the other. -/
import Derived.Test.YtpcnbamlmfmmpaaGreatDoorBdRng4
import Derived.Test.YtpcnbamlmfmmpaaGreatDoorBdRng3
import Derived.Lib.SliceRun

section
/- What the document's Make, Union, Meet, Minus, Xor, Not, Can and Size answer. -/
set_option linter.unusedVariables false
set_option linter.unusedSimpArgs false
namespace Go.Proofs.YtpcnbamlmfmmpaaGreatDoor.rng
open Go.RowKit

theorem rmake_any (a1 : Option Addr) (c1 : Nat) (l : List R) (w : World) (hn : l.length ≤ 1000000) (h1 : RV w a1 l) (n1 : a1 = none → c1 = 0) :
    Calls Tryz.prog 56 #[.slice a1 l.length c1] w fun e w' => ∃ v r, e = .returned v ∧ Own w' w.heap.size v r ∧ IsSet r (has l) ∧ Below w.heap.size w w' := by
  have C := both_any a1 none c1 0 l [] 0 w (by omega) hn (by simp) h1 (RV.nil _ _) n1 (fun _ => rfl)
  have e0 : ([] : List R).length = 0 := rfl
  rw [e0] at C
  clear hn h1 n1 e0
  generalize l.length = n1 at *
  go_enter Tryz.func56, Tryz.ntmps56
  go_wp2_with fail
  refine C.mono ?_
  rintro e w1 ⟨v, r, rfl, ho, hs, hb⟩
  go_wp2
  go_ret
  exact ⟨v, r, rfl, ho, hs.congr (fun x _ => by simp [way, has_nil]), hb⟩
theorem rmeet_any (a1 a2 : Option Addr) (c1 c2 : Nat) (l m : List R) (w : World) (hn : l.length ≤ 1000000) (hm : m.length ≤ 1000000) (h1 : RV w a1 l) (h2 : RV w a2 m) (n1 : a1 = none → c1 = 0) (n2 : a2 = none → c2 = 0) :
    Calls Tryz.prog 19 #[.slice a1 l.length c1, .slice a2 m.length c2] w fun e w' => ∃ v r, e = .returned v ∧ Own w' w.heap.size v r ∧ IsSet r (fun x => has l x && has m x) ∧ Below w.heap.size w w' := by
  have C := both_any a1 a2 c1 c2 l m 1 w (by omega) hn hm h1 h2 n1 n2
  clear hn hm h1 h2 n1 n2
  generalize l.length = n1 at *
  generalize m.length = n2 at *
  go_enter Tryz.func19, Tryz.ntmps19
  go_wp2_with fail
  refine C.mono ?_
  rintro e w1 ⟨v, r, rfl, ho, hs, hb⟩
  go_wp2
  go_ret
  exact ⟨v, r, rfl, ho, hs, hb⟩
theorem rminus_any (a1 a2 : Option Addr) (c1 c2 : Nat) (l m : List R) (w : World) (hn : l.length ≤ 1000000) (hm : m.length ≤ 1000000) (h1 : RV w a1 l) (h2 : RV w a2 m) (n1 : a1 = none → c1 = 0) (n2 : a2 = none → c2 = 0) :
    Calls Tryz.prog 20 #[.slice a1 l.length c1, .slice a2 m.length c2] w fun e w' => ∃ v r, e = .returned v ∧ Own w' w.heap.size v r ∧ IsSet r (fun x => has l x && !has m x) ∧ Below w.heap.size w w' := by
  have C := both_any a1 a2 c1 c2 l m 2 w (by omega) hn hm h1 h2 n1 n2
  clear hn hm h1 h2 n1 n2
  generalize l.length = n1 at *
  generalize m.length = n2 at *
  go_enter Tryz.func20, Tryz.ntmps20
  go_wp2_with fail
  refine C.mono ?_
  rintro e w1 ⟨v, r, rfl, ho, hs, hb⟩
  go_wp2
  go_ret
  exact ⟨v, r, rfl, ho, hs, hb⟩
theorem rxor_any (a1 a2 : Option Addr) (c1 c2 : Nat) (l m : List R) (w : World) (hn : l.length ≤ 1000000) (hm : m.length ≤ 1000000) (h1 : RV w a1 l) (h2 : RV w a2 m) (n1 : a1 = none → c1 = 0) (n2 : a2 = none → c2 = 0) :
    Calls Tryz.prog 21 #[.slice a1 l.length c1, .slice a2 m.length c2] w fun e w' => ∃ v r, e = .returned v ∧ Own w' w.heap.size v r ∧ IsSet r (fun x => has l x != has m x) ∧ Below w.heap.size w w' := by
  have C := both_any a1 a2 c1 c2 l m 3 w (by omega) hn hm h1 h2 n1 n2
  clear hn hm h1 h2 n1 n2
  generalize l.length = n1 at *
  generalize m.length = n2 at *
  go_enter Tryz.func21, Tryz.ntmps21
  go_wp2_with fail
  refine C.mono ?_
  rintro e w1 ⟨v, r, rfl, ho, hs, hb⟩
  go_wp2
  go_ret
  exact ⟨v, r, rfl, ho, hs, hb⟩
def rall : List R := [(0, 1114111)]
theorem has_rall (x : Int) : has rall x = code x := by
  unfold rall; rw [has_cons, has_nil, Bool.or_false]
  cases h : code x
  · rfl
  · rw [(inP_iff (0, 1114111) x).2 ((code_iff x).1 h)]; rfl
theorem rv_one (w : World) (x y : Int) : RV (w.alloc (.cells #[.int .i64 x, .int .i64 y] 44)) (some ⟨w.heap.size, 0, none⟩) [(x, y)] := by
  refine .inr ⟨_, _, rfl, fun i p hi => ?_⟩
  have h0 : i = 0 := by have := (List.getElem?_eq_some_iff.1 hi).1; simp at this; exact this
  subst h0
  simp at hi
  subst hi
  simp
theorem rnot_any (a1 : Option Addr) (c1 : Nat) (l : List R) (w : World) (hn : l.length ≤ 1000000) (h1 : RV w a1 l) (n1 : a1 = none → c1 = 0) :
    Calls Tryz.prog 16 #[.slice a1 l.length c1] w fun e w' => ∃ v r, e = .returned v ∧ Own w' w.heap.size v r ∧ IsSet r (fun x => !has l x) ∧ Below w.heap.size w w' := by
  have B0 := (Below.refl w.heap.size w).alloc (Nat.le_refl _) (.cells #[.int .i64 0, .int .i64 1114111] 44)
  have C := both_any _ a1 1 c1 rall l 2 _ (by omega) (by decide) hn (rv_one w 0 1114111) (h1.below B0) (fun e => by cases e) n1
  have e1 : rall.length = 1 := rfl
  rw [e1] at C
  clear hn h1 n1
  generalize l.length = n1 at *
  go_enter Tryz.func16, Tryz.ntmps16
  go_wp2_with fail
  refine C.mono ?_
  rintro e w1 ⟨v, r, rfl, ho, hs, hb⟩
  go_wp2
  go_ret
  refine ⟨v, r, rfl, own_mono ho (by simp), hs.congr (fun x hx => by rw [has_rall, hx]; simp [way]), B0.trans (hb.mono (by simp))⟩

/-- Is the list the set of itself. -/
theorem canB_of {l s : List R} (h : IsSet s (has l)) : canB 0 l = decide (s = l) := by
  rw [Bool.eq_iff_iff, canB_iff, decide_eq_true_eq]
  exact ⟨fun hc => h.eq (IsSet.self hc) (fun _ _ => rfl), fun e => e ▸ h.1⟩
theorem take_ne {l s : List R} {k : Nat} {a b : R} (h1 : l[k]? = some a) (h2 : s[k]? = some b) (h : b ≠ a) : s ≠ l := fun e => by
  rw [e, h1] at h2; cases h2; exact h rfl

set_option maxRecDepth 10000 in
set_option maxHeartbeats 1000000 in
theorem rcan_any (ao : Option Addr) (cap : Nat) (l : List R) (w : World) (hn : l.length ≤ 1000000) (hv : RV w ao l) (n1 : ao = none → cap = 0) :
    Calls Tryz.prog 17 #[.slice ao l.length cap] w fun e w' => e = .returned (.bool (canB 0 l)) ∧ Below w.heap.size w w' := by
  have C := rmake_any ao cap l w hn hv n1
  have HV0 : Hid (RV w ao l) := hv
  obtain ⟨n0, hl0⟩ : ∃ n, l.length = n := ⟨_, rfl⟩
  rw [hl0] at hn C ⊢
  have HL0 : Hid (l.length = n0) := hl0
  clear hv n1 hl0
  go_enter Tryz.func17, Tryz.ntmps17
  go_wp2_with fail
  refine C.mono ?_
  rintro e w1 ⟨v1, s, rfl, ho1, hset, hb1⟩
  obtain ⟨a1, c1, rfl, hv1, hc1, hm1⟩ := Own.view ho1
  have HV : Hid (RV w1 a1 s) := hv1
  have HB : Hid (canB 0 l = decide (s = l)) := canB_of hset
  have hsn : s.length ≤ 1000000 := by have := can_len hset.1; omega
  obtain ⟨m, hl⟩ : ∃ m, s.length = m := ⟨_, rfl⟩
  rw [hl] at hsn ⊢
  have HL : Hid (s.length = m) := hl
  have hbs := hb1.size
  clear C ho1 hset hv1 hl hm1 hc1
  by_cases hne : m = n0
  · subst hne
    have hnn : ((m : Int) != (m : Int)) = false := by simp
    go_wp2
    go_loopw [14] (fun i wr => ∃ (k : Nat), k ≤ m ∧ i = .int .i64 k ∧ Hid (s.take k = l.take k) ∧ Below w1.heap.size w1 wr) (fun i _ => m - (intOf i).toNat)
    case atStart => exact ⟨0, Nat.zero_le _, rfl, rfl, Below.refl _ _⟩
    case round =>
      obtain ⟨k, hk, rfl, HT, hbel⟩ := hrel
      have hs1 := hbel.size
      by_cases hlt : k < m
      · obtain ⟨x, y, hp⟩ := get_lt HL.out hlt
        obtain ⟨x', y', hp'⟩ := get_lt HL0.out hlt
        obtain ⟨b, off, rfl, hc⟩ := (HV.out.below hbel).some (by have := HL.out; omega)
        obtain ⟨b', off', rfl, hc'⟩ := (HV0.out.below (hb1.trans (hbel.mono hbs))).some (by have := HL0.out; omega)
        obtain ⟨c1, c2⟩ := hc k (x, y) hp
        obtain ⟨c3, c4⟩ := hc' k (x', y') hp'
        simp only at c1 c2 c3 c4
        have HT2 : Hid (s.take (k + 1) = s.take k ++ [(x, y)]) := take_get hp
        have HT3 : Hid (l.take (k + 1) = l.take k ++ [(x', y')]) := take_get hp'
        by_cases hxy : x = x' ∧ y = y'
        · obtain ⟨rfl, rfl⟩ := hxy
          have HE : Hid (s.take (k + 1) = l.take (k + 1)) := by unfold Hid; rw [HT2.out, HT3.out, HT.out]
          clear hc hc' hp hp' HT HT2 HT3
          go_wp2
          go_quiet (fail)
          go_wp2
          go_roundw
          case rel => exact ⟨k + 1, by omega, by go_num, HE, below_drewN hbel _⟩
          case measure => simp [intOf]; omega
        · have HE : Hid (canB 0 l = false) := by
            unfold Hid; rw [HB.out]
            exact decide_eq_false (take_ne hp' hp (fun e => hxy (by cases e; exact ⟨rfl, rfl⟩)))
          clear hc hc' hp hp' HT HT2 HT3
          by_cases hxx : x' = x
          · have hyy : (y' == y) = false := by
              have : y' ≠ y := fun e => hxy ⟨hxx.symm, e.symm⟩
              simpa using this
            subst hxx
            clear hxy
            go_wp2
            go_quiet (fail)
            go_wp2
            go_ret
            exact ⟨ret_bool HE.out.symm, hb1.trans (below_drewN (hbel.mono hbs) _)⟩
          · have hxx' : (x' == x) = false := by simpa using hxx
            clear hxy hxx
            go_wp2
            go_quiet (fail)
            go_wp2
            go_ret
            exact ⟨ret_bool HE.out.symm, hb1.trans (below_drewN (hbel.mono hbs) _)⟩
      · go_wp2
        go_ret
        have e1 : s.take k = s := List.take_of_length_le (by have := HL.out; omega)
        have e2 : l.take k = l := List.take_of_length_le (by have := HL0.out; omega)
        refine ⟨ret_bool ?_, hb1.trans (hbel.mono hbs)⟩
        rw [HB.out, decide_eq_true (by rw [← e1, HT.out, e2])]
  · have hnn : ((m : Int) != (n0 : Int)) = true := by simp; omega
    have HE : Hid (canB 0 l = false) := by
      unfold Hid; rw [HB.out]
      exact decide_eq_false (fun e => hne (by rw [← HL.out, e, HL0.out]))
    go_wp2
    go_ret
    exact ⟨ret_bool HE.out.symm, hb1⟩
end Go.Proofs.YtpcnbamlmfmmpaaGreatDoor.rng
end

section
/- The calls of ranges and of the document's answer, at lists wherever they lie; slices.Clone; awake. -/
set_option linter.unusedVariables false
set_option linter.unusedSimpArgs false
namespace Go.Proofs.YtpcnbamlmfmmpaaGreatDoor.rng
open Go.RowKit

/-- v is a slice that reads as the ranges l. -/
def Sl (w : World) (v : Value) (l : List R) : Prop := ∃ ao cap, v = .slice ao l.length cap ∧ RV w ao l ∧ (ao = none → cap = 0)
theorem Sl.below {w w' : World} {v : Value} {l : List R} (h : Sl w v l) (hb : Below w.heap.size w w') : Sl w' v l := by
  obtain ⟨ao, cap, e, hv, h0⟩ := h
  exact ⟨ao, cap, e, hv.below hb, h0⟩
theorem Own.sl {w : World} {B : Nat} {v : Value} {l : List R} (h : Own w B v l) : Sl w v l := by
  obtain ⟨ao, cap, e, hv, _, _⟩ := h.view
  refine ⟨ao, cap, e, hv, fun h0 => ?_⟩
  rcases h.2 with ⟨e2, _⟩ | ⟨g, c, cur, e2, _⟩
  · rw [e2] at e; injection e with e3 e4 e5; exact e5.symm
  · rw [e2] at e; injection e with e3 e4 e5; rw [h0] at e3; cases e3

theorem make_s (v : Value) (l : List R) (w : World) (hs : Sl w v l) (hn : l.length ≤ 1000000) :
    Calls Tryz.prog 154 #[v] w fun e w' => ∃ v' r, e = .returned v' ∧ Sl w' v' r ∧ IsSet r (has l) ∧ Below w.heap.size w w' := by
  obtain ⟨ao, cap, rfl, hv, h0⟩ := hs
  refine (make_any ao cap l w (by omega) hv).mono ?_
  rintro e w' ⟨v', r, he, ho, hr, hb⟩
  exact ⟨v', r, he, ho.sl, hr, hb⟩
theorem rnot_s (v : Value) (l : List R) (w : World) (hs : Sl w v l) (hn : l.length ≤ 1000000) :
    Calls Tryz.prog 16 #[v] w fun e w' => ∃ v' r, e = .returned v' ∧ Sl w' v' r ∧ IsSet r (fun x => !has l x) ∧ Below w.heap.size w w' := by
  obtain ⟨ao, cap, rfl, hv, h0⟩ := hs
  refine (rnot_any ao cap l w hn hv h0).mono ?_
  rintro e w' ⟨v', r, he, ho, hr, hb⟩
  exact ⟨v', r, he, ho.sl, hr, hb⟩
theorem rmeet_s (v1 v2 : Value) (l m : List R) (w : World) (h1 : Sl w v1 l) (h2 : Sl w v2 m) (hn : l.length ≤ 1000000) (hm : m.length ≤ 1000000) :
    Calls Tryz.prog 19 #[v1, v2] w fun e w' => ∃ v' r, e = .returned v' ∧ Sl w' v' r ∧ IsSet r (fun x => has l x && has m x) ∧ Below w.heap.size w w' := by
  obtain ⟨a1, c1, rfl, k1, z1⟩ := h1
  obtain ⟨a2, c2, rfl, k2, z2⟩ := h2
  refine (rmeet_any a1 a2 c1 c2 l m w hn hm k1 k2 z1 z2).mono ?_
  rintro e w' ⟨v', r, he, ho, hr, hb⟩
  exact ⟨v', r, he, ho.sl, hr, hb⟩
theorem rminus_s (v1 v2 : Value) (l m : List R) (w : World) (h1 : Sl w v1 l) (h2 : Sl w v2 m) (hn : l.length ≤ 1000000) (hm : m.length ≤ 1000000) :
    Calls Tryz.prog 20 #[v1, v2] w fun e w' => ∃ v' r, e = .returned v' ∧ Sl w' v' r ∧ IsSet r (fun x => has l x && !has m x) ∧ Below w.heap.size w w' := by
  obtain ⟨a1, c1, rfl, k1, z1⟩ := h1
  obtain ⟨a2, c2, rfl, k2, z2⟩ := h2
  refine (rminus_any a1 a2 c1 c2 l m w hn hm k1 k2 z1 z2).mono ?_
  rintro e w' ⟨v', r, he, ho, hr, hb⟩
  exact ⟨v', r, he, ho.sl, hr, hb⟩
theorem rxor_s (v1 v2 : Value) (l m : List R) (w : World) (h1 : Sl w v1 l) (h2 : Sl w v2 m) (hn : l.length ≤ 1000000) (hm : m.length ≤ 1000000) :
    Calls Tryz.prog 21 #[v1, v2] w fun e w' => ∃ v' r, e = .returned v' ∧ Sl w' v' r ∧ IsSet r (fun x => has l x != has m x) ∧ Below w.heap.size w w' := by
  obtain ⟨a1, c1, rfl, k1, z1⟩ := h1
  obtain ⟨a2, c2, rfl, k2, z2⟩ := h2
  refine (rxor_any a1 a2 c1 c2 l m w hn hm k1 k2 z1 z2).mono ?_
  rintro e w' ⟨v', r, he, ho, hr, hb⟩
  exact ⟨v', r, he, ho.sl, hr, hb⟩
theorem has_s (v : Value) (l : List R) (x : Int) (w : World) (hs : Sl w v l) (hn : l.length ≤ 1000000) :
    Calls Tryz.prog 59 #[v, .int .i64 x] w fun e w' => e = .returned (.bool (has l x)) ∧ Below w.heap.size w w' := by
  obtain ⟨ao, cap, rfl, hv, h0⟩ := hs
  exact has_any ao cap l x w (by omega) hv
theorem rcan_s (v : Value) (l : List R) (w : World) (hs : Sl w v l) (hn : l.length ≤ 1000000) :
    Calls Tryz.prog 17 #[v] w fun e w' => e = .returned (.bool (canB 0 l)) ∧ Below w.heap.size w w' := by
  obtain ⟨ao, cap, rfl, hv, h0⟩ := hs
  exact rcan_any ao cap l w hn hv h0
theorem equal_s (v1 v2 : Value) (l m : List R) (w : World) (h1 : Sl w v1 l) (h2 : Sl w v2 m) (hn : l.length ≤ 1000000) (e : l = m) :
    Calls Tryz.prog 15 #[v1, v2] w fun e w' => e = .returned (.bool true) ∧ Below w.heap.size w w' := by
  subst e
  obtain ⟨a1, c1, rfl, k1, z1⟩ := h1
  obtain ⟨a2, c2, rfl, k2, z2⟩ := h2
  exact equal_same a1 a2 c1 c2 l w (by omega) k1 k2

/-- A list of ranges that came in. -/
def Arg (w : World) (v : Value) (l : List R) : Prop := ∃ ao cap, v = .slice ao l.length cap ∧ RV w ao l ∧ (ao = none → cap = 0) ∧ l.length ≤ cap ∧ cap ≤ 9223372036854775807
end Go.Proofs.YtpcnbamlmfmmpaaGreatDoor.rng
end
