/- What the document's Make, Union, Meet, Minus, Xor, Not, Can and Size answer. -/
import Derived.Test.YtmglljceklmngaaRngBoth
set_option linter.unusedVariables false
set_option linter.unusedSimpArgs false
namespace Go.Proofs.Ytmglljceklmngaa.rng
open Go.RowKit

theorem rmake_any (a1 : Option Addr) (c1 : Nat) (l : List R) (w : World) (hn : l.length ≤ 1000000) (h1 : RV w a1 l) (n1 : a1 = none → c1 = 0) :
    Calls Try.prog 38 #[.slice a1 l.length c1] w fun e w' => ∃ v r, e = .returned v ∧ Own w' w.heap.size v r ∧ IsSet r (has l) ∧ Below w.heap.size w w' := by
  have C := both_any a1 none c1 0 l [] 0 w (by omega) hn (by simp) h1 (RV.nil _ _) n1 (fun _ => rfl)
  have e0 : ([] : List R).length = 0 := rfl
  rw [e0] at C
  clear hn h1 n1 e0
  generalize l.length = n1 at *
  go_enter Try.func38, Try.ntmps38
  go_wp2_with fail
  refine C.mono ?_
  rintro e w1 ⟨v, r, rfl, ho, hs, hb⟩
  go_wp2
  go_ret
  exact ⟨v, r, rfl, ho, hs.congr (fun x _ => by simp [way, has_nil]), hb⟩
theorem runion_any (a1 a2 : Option Addr) (c1 c2 : Nat) (l m : List R) (w : World) (hn : l.length ≤ 1000000) (hm : m.length ≤ 1000000) (h1 : RV w a1 l) (h2 : RV w a2 m) (n1 : a1 = none → c1 = 0) (n2 : a2 = none → c2 = 0) :
    Calls Try.prog 35 #[.slice a1 l.length c1, .slice a2 m.length c2] w fun e w' => ∃ v r, e = .returned v ∧ Own w' w.heap.size v r ∧ IsSet r (fun x => has l x || has m x) ∧ Below w.heap.size w w' := by
  have C := both_any a1 a2 c1 c2 l m 0 w (by omega) hn hm h1 h2 n1 n2
  clear hn hm h1 h2 n1 n2
  generalize l.length = n1 at *
  generalize m.length = n2 at *
  go_enter Try.func35, Try.ntmps35
  go_wp2_with fail
  refine C.mono ?_
  rintro e w1 ⟨v, r, rfl, ho, hs, hb⟩
  go_wp2
  go_ret
  exact ⟨v, r, rfl, ho, hs, hb⟩
theorem rminus_any (a1 a2 : Option Addr) (c1 c2 : Nat) (l m : List R) (w : World) (hn : l.length ≤ 1000000) (hm : m.length ≤ 1000000) (h1 : RV w a1 l) (h2 : RV w a2 m) (n1 : a1 = none → c1 = 0) (n2 : a2 = none → c2 = 0) :
    Calls Try.prog 36 #[.slice a1 l.length c1, .slice a2 m.length c2] w fun e w' => ∃ v r, e = .returned v ∧ Own w' w.heap.size v r ∧ IsSet r (fun x => has l x && !has m x) ∧ Below w.heap.size w w' := by
  have C := both_any a1 a2 c1 c2 l m 2 w (by omega) hn hm h1 h2 n1 n2
  clear hn hm h1 h2 n1 n2
  generalize l.length = n1 at *
  generalize m.length = n2 at *
  go_enter Try.func36, Try.ntmps36
  go_wp2_with fail
  refine C.mono ?_
  rintro e w1 ⟨v, r, rfl, ho, hs, hb⟩
  go_wp2
  go_ret
  exact ⟨v, r, rfl, ho, hs, hb⟩
def rall : List R := [(0, 1114111)]
theorem has_rall (x : Int) : has rall x = code x := by
  unfold rall; rw [has_cons, has_nil, Bool.or_false]
  cases h : code x
  · rfl
  · rw [(inP_iff (0, 1114111) x).2 ((code_iff x).1 h)]; rfl
theorem rv_one (w : World) (x y : Int) : RV (w.alloc (.cells #[.int .i64 x, .int .i64 y] 43)) (some ⟨w.heap.size, 0, none⟩) [(x, y)] := by
  refine .inr ⟨_, _, rfl, fun i p hi => ?_⟩
  have h0 : i = 0 := by have := (List.getElem?_eq_some_iff.1 hi).1; simp at this; exact this
  subst h0
  simp at hi
  subst hi
  simp
/-- Is the list the set of itself. -/
theorem canB_of {l s : List R} (h : IsSet s (has l)) : canB 0 l = decide (s = l) := by
  rw [Bool.eq_iff_iff, canB_iff, decide_eq_true_eq]
  exact ⟨fun hc => h.eq (IsSet.self hc) (fun _ _ => rfl), fun e => e ▸ h.1⟩
theorem take_ne {l s : List R} {k : Nat} {a b : R} (h1 : l[k]? = some a) (h2 : s[k]? = some b) (h : b ≠ a) : s ≠ l := fun e => by
  rw [e, h1] at h2; cases h2; exact h rfl

set_option maxRecDepth 10000 in
set_option maxHeartbeats 1000000 in
theorem rcan_any (ao : Option Addr) (cap : Nat) (l : List R) (w : World) (hn : l.length ≤ 1000000) (hv : RV w ao l) (n1 : ao = none → cap = 0) :
    Calls Try.prog 22 #[.slice ao l.length cap] w fun e w' => e = .returned (.bool (canB 0 l)) ∧ Below w.heap.size w w' := by
  have C := rmake_any ao cap l w hn hv n1
  have HV0 : Hid (RV w ao l) := hv
  obtain ⟨n0, hl0⟩ : ∃ n, l.length = n := ⟨_, rfl⟩
  rw [hl0] at hn C ⊢
  have HL0 : Hid (l.length = n0) := hl0
  clear hv n1 hl0
  go_enter Try.func22, Try.ntmps22
  go_wp2_with fail
  refine C.mono ?_
  rintro e w1 ⟨v1, s, rfl, ho1, hset, hb1⟩
  obtain ⟨a1, c1, rfl, hv1, hc1, hm1⟩ := Own.view ho1
  have HV : Hid (RV w1 a1 s) := hv1
  have HB : Hid (canB 0 l = decide (s = l)) := canB_of hset
  have hsn : s.length ≤ 1000000 := by have := can_len hset.1; omega
  obtain ⟨m, hl⟩ : ∃ m, s.length = m := ⟨_, rfl⟩
  rw [hl] at hsn ⊢
  have HL : Hid (s.length = m) := hl
  have hbs := hb1.size
  clear C ho1 hset hv1 hl hm1 hc1
  by_cases hne : m = n0
  · subst hne
    have hnn : ((m : Int) != (m : Int)) = false := by simp
    go_wp2
    go_loopw [14] (fun i wr => ∃ (k : Nat), k ≤ m ∧ i = .int .i64 k ∧ Hid (s.take k = l.take k) ∧ Below w1.heap.size w1 wr) (fun i _ => m - (intOf i).toNat)
    case atStart => exact ⟨0, Nat.zero_le _, rfl, rfl, Below.refl _ _⟩
    case round =>
      obtain ⟨k, hk, rfl, HT, hbel⟩ := hrel
      have hs1 := hbel.size
      by_cases hlt : k < m
      · obtain ⟨x, y, hp⟩ := get_lt HL.out hlt
        obtain ⟨x', y', hp'⟩ := get_lt HL0.out hlt
        obtain ⟨b, off, rfl, hc⟩ := (HV.out.below hbel).some (by have := HL.out; omega)
        obtain ⟨b', off', rfl, hc'⟩ := (HV0.out.below (hb1.trans (hbel.mono hbs))).some (by have := HL0.out; omega)
        obtain ⟨c1, c2⟩ := hc k (x, y) hp
        obtain ⟨c3, c4⟩ := hc' k (x', y') hp'
        simp only at c1 c2 c3 c4
        have HT2 : Hid (s.take (k + 1) = s.take k ++ [(x, y)]) := take_get hp
        have HT3 : Hid (l.take (k + 1) = l.take k ++ [(x', y')]) := take_get hp'
        by_cases hxy : x = x' ∧ y = y'
        · obtain ⟨rfl, rfl⟩ := hxy
          have HE : Hid (s.take (k + 1) = l.take (k + 1)) := by unfold Hid; rw [HT2.out, HT3.out, HT.out]
          clear hc hc' hp hp' HT HT2 HT3
          go_wp2
          go_quiet (fail)
          go_wp2
          go_roundw
          case rel => exact ⟨k + 1, by omega, by go_num, HE, below_drewN hbel _⟩
          case measure => simp [intOf]; omega
        · have HE : Hid (canB 0 l = false) := by
            unfold Hid; rw [HB.out]
            exact decide_eq_false (take_ne hp' hp (fun e => hxy (by cases e; exact ⟨rfl, rfl⟩)))
          clear hc hc' hp hp' HT HT2 HT3
          by_cases hxx : x' = x
          · have hyy : (y' == y) = false := by
              have : y' ≠ y := fun e => hxy ⟨hxx.symm, e.symm⟩
              simpa using this
            subst hxx
            clear hxy
            go_wp2
            go_quiet (fail)
            go_wp2
            go_ret
            exact ⟨ret_bool HE.out.symm, hb1.trans (below_drewN (hbel.mono hbs) _)⟩
          · have hxx' : (x' == x) = false := by simpa using hxx
            clear hxy hxx
            go_wp2
            go_quiet (fail)
            go_wp2
            go_ret
            exact ⟨ret_bool HE.out.symm, hb1.trans (below_drewN (hbel.mono hbs) _)⟩
      · go_wp2
        go_ret
        have e1 : s.take k = s := List.take_of_length_le (by have := HL.out; omega)
        have e2 : l.take k = l := List.take_of_length_le (by have := HL0.out; omega)
        refine ⟨ret_bool ?_, hb1.trans (hbel.mono hbs)⟩
        rw [HB.out, decide_eq_true (by rw [← e1, HT.out, e2])]
  · have hnn : ((m : Int) != (n0 : Int)) = true := by simp; omega
    have HE : Hid (canB 0 l = false) := by
      unfold Hid; rw [HB.out]
      exact decide_eq_false (fun e => hne (by rw [← HL.out, e, HL0.out]))
    go_wp2
    go_ret
    exact ⟨ret_bool HE.out.symm, hb1⟩
end Go.Proofs.Ytmglljceklmngaa.rng
