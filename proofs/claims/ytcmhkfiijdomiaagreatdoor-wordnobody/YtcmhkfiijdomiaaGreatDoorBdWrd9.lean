/- Texts that the proof leans on, one behind the other. -/
import Derived.Test.YtcmhkfiijdomiaaGreatDoorBdWrd1
import Derived.Test.YtcmhkfiijdomiaaGreatDoorBdPfx1
import Derived.Test.YtcmhkfiijdomiaaGreatDoorBdPrp9

section
/- word.Is, word.Simple, and the document's. -/
set_option linter.unusedVariables false
set_option linter.unusedSimpArgs false
namespace Go.Proofs.YtcmhkfiijdomiaaGreatDoor.wrd
open Go.RowKit Go.Maps
open Go.Proofs.YtcmhkfiijdomiaaGreatDoor.lin Go.Proofs.YtcmhkfiijdomiaaGreatDoor.prp

/-- Does \w fit a category? -/
def isS (s : List UInt8) : Bool := [76].isPrefixOf s || [77].isPrefixOf s || s == [78, 108] || s == [78, 100] || s == [80, 99]
def isW (r : Int) : Bool := isS (sF [67, 110] catL r)
/-- Is a place an edge, by what F says of its sides? -/
def simF (F : Int → Bool) (l : List Int) (i : Int) : Bool := if i < 0 ∨ (l.length : Int) < i then false else ((decide (0 < i) && F (l.getD (i - 1).toNat 0)) != (decide (i < l.length) && F (l.getD i.toNat 0)))
theorem prefix_any (s p : List UInt8) (W : World) : Calls Tryz.prog 51 #[.string (BA s), .string (BA p)] W fun e w' => e = .returned (.bool (p.isPrefixOf s)) ∧ w' = W := by
  have := Tryz.strings_HasPrefix (BA s) (BA p) W
  rw [BA_data, BA_data] at this
  exact this
set_option maxRecDepth 1000000 in
/-- The walk of Is, by what the tables tell. -/
theorem is_any (tv : Value) (r : Int) (s : List UInt8) (w : World) (C : Calls Tryz.prog 50 #[tv, .int .i64 r] w fun e w' => e = .returned (.string (BA s)) ∧ Below w.heap.size w w') :
    Calls Tryz.prog 18 #[tv, .int .i64 r] w fun e w' => e = .returned (.bool (isS s)) ∧ Below w.heap.size w w' := by
  by_cases h1 : s = [78, 108]
  · have hI : isS s = true := by rw [h1]; rfl
    rw [hI]
    have g1 : ((BA s).toList == [78, 108]) = true := by rw [h1]; exact beqT _
    clear h1 hI
    generalize BA s = B at *
    go_enter Tryz.func18, Tryz.ntmps18
    go_wp2_with fail
    refine C.mono ?_
    rintro e w1 ⟨rfl, hb⟩
    clear C
    go_wp2
    try rw [Exit.noGoto_ret]
    go_ret
    exact ⟨rfl, hb⟩
  have g1 := beqF h1
  by_cases h2 : s = [78, 100]
  · have hI : isS s = true := by rw [h2]; rfl
    rw [hI]
    have g2 : ((BA s).toList == [78, 100]) = true := by rw [h2]; exact beqT _
    clear h1 h2 hI
    generalize BA s = B at *
    go_enter Tryz.func18, Tryz.ntmps18
    go_wp2_with fail
    refine C.mono ?_
    rintro e w1 ⟨rfl, hb⟩
    clear C
    go_wp2
    try rw [Exit.noGoto_ret]
    go_ret
    exact ⟨rfl, hb⟩
  have g2 := beqF h2
  by_cases h3 : s = [80, 99]
  · have hI : isS s = true := by rw [h3]; rfl
    rw [hI]
    have g3 : ((BA s).toList == [80, 99]) = true := by rw [h3]; exact beqT _
    clear h1 h2 h3 hI
    generalize BA s = B at *
    go_enter Tryz.func18, Tryz.ntmps18
    go_wp2_with fail
    refine C.mono ?_
    rintro e w1 ⟨rfl, hb⟩
    clear C
    go_wp2
    try rw [Exit.noGoto_ret]
    go_ret
    exact ⟨rfl, hb⟩
  have g3 := beqF h3
  have hI : isS s = ([76].isPrefixOf s || [77].isPrefixOf s) := by
    unfold isS
    rw [beq_eq_false_iff_ne.2 h1, beq_eq_false_iff_ne.2 h2, beq_eq_false_iff_ne.2 h3, Bool.or_false, Bool.or_false, Bool.or_false]
  rw [hI]
  have P1 : Hid (∀ W, Calls Tryz.prog 51 #[.string (BA s), .string ⟨#[76]⟩] W fun e w' => e = .returned (.bool ([76].isPrefixOf s)) ∧ w' = W) := fun W => prefix_any s [76] W
  have P2 : Hid (∀ W, Calls Tryz.prog 51 #[.string (BA s), .string ⟨#[77]⟩] W fun e w' => e = .returned (.bool ([77].isPrefixOf s)) ∧ w' = W) := fun W => prefix_any s [77] W
  clear h1 h2 h3 hI
  generalize List.isPrefixOf [76] s = X at *
  generalize List.isPrefixOf [77] s = Y at *
  generalize BA s = B at *
  cases X with
  | true =>
    go_enter Tryz.func18, Tryz.ntmps18
    go_wp2_with fail
    refine C.mono ?_
    rintro e w1 ⟨rfl, hb⟩
    clear C
    have C := P1.out w1
    go_wp2_with fail
    refine C.mono ?_
    rintro e w2 ⟨rfl, hw⟩
    rw [hw]
    clear C hw w2
    go_wp2
    try rw [Exit.noGoto_ret]
    go_ret
    exact ⟨rfl, hb⟩
  | false =>
    go_enter Tryz.func18, Tryz.ntmps18
    go_wp2_with fail
    refine C.mono ?_
    rintro e w1 ⟨rfl, hb⟩
    clear C
    have C := P1.out w1
    go_wp2_with fail
    refine C.mono ?_
    rintro e w2 ⟨rfl, hw⟩
    rw [hw]
    clear C hw w2
    have C := P2.out w1
    go_wp2_with fail
    refine C.mono ?_
    rintro e w2 ⟨rfl, hw⟩
    rw [hw]
    clear C hw w2
    go_wp2
    try rw [Exit.noGoto_ret]
    go_ret
    exact ⟨rfl, hb⟩
theorem is_t (t : Nat) (r : Int) (w : World) (h : Tabs w t) : Calls Tryz.prog 18 #[.pointer (some ⟨t, 0, none⟩), .int .i64 r] w fun e w' => e = .returned (.bool (isW r)) ∧ Below w.heap.size w w' :=
  is_any _ r _ w (category_t t r w h)
theorem is_no (v : Value) (r : Int) (w : World) (h : Unmade w v) : Calls Tryz.prog 18 #[v, .int .i64 r] w fun e w' => e = .returned (.bool false) ∧ Below w.heap.size w w' :=
  is_any v r [] w ((category_no v r w h).mono (fun e w' hh => ⟨hh.1, by rw [hh.2]; exact Below.refl _ _⟩))
theorem cat_recs1 : ∀ x ∈ catL, (x.2.2.getD 0 []).length = 2 := by decide +kernel
theorem cat_two (r : Int) : (sF [67, 110] catL r).length = 2 := by
  rw [sF_first [67, 110] catL cat_apart]
  cases hf : firstR catL r with
  | none => rfl
  | some x => exact cat_recs1 x (first_mem hf).1
set_option maxHeartbeats 1000000 in
set_option maxRecDepth 1000000 in
theorem ris_t (u : Nat) (r : Int) (w : World) (h : RTabs w u) : Calls Tryz.prog 19 #[.pointer (some ⟨u, 0, none⟩), .int .i64 r] w fun e w' => e = .returned (.bool (isW r)) ∧ Below w.heap.size w w' := by
  have C := rcategory_t u r w h
  unfold isW
  have hlen := cat_two r
  clear h
  generalize sF [67, 110] catL r = s at *
  match s, hlen with
  | [a, b], _ =>
    have e1 : ((BA [a, b]).extract 0 1).toList = [a] := by rw [Lib.toList_data]; rfl
    have e2 : (BA [a, b]).toList = [a, b] := by rw [Lib.toList_data, BA_data]
    have e3 : (BA [a, b]).size = 2 := rfl
    have hI : isS [a, b] = ((a == 76) || (a == 77) || ([a, b] == [78, 108]) || ([a, b] == [78, 100]) || ([a, b] == [80, 99])) := by
      unfold isS
      simp only [List.isPrefixOf, Bool.and_true]
      rw [show ((76 : UInt8) == a) = (a == 76) from Bool.beq_comm, show ((77 : UInt8) == a) = (a == 77) from Bool.beq_comm]
    rw [hI]
    clear hlen hI
    have f1 : ∀ c : UInt8, ([a] == [c]) = (a == c) := fun c => by rw [Bool.eq_iff_iff, beq_iff_eq, beq_iff_eq]; simp
    obtain ⟨X1, q1⟩ : ∃ X, (a == 76) = X := ⟨_, rfl⟩
    obtain ⟨X2, q2⟩ : ∃ X, (a == 77) = X := ⟨_, rfl⟩
    obtain ⟨X3, q3⟩ : ∃ X, ([a, b] == [78, 108]) = X := ⟨_, rfl⟩
    obtain ⟨X4, q4⟩ : ∃ X, ([a, b] == [78, 100]) = X := ⟨_, rfl⟩
    obtain ⟨X5, q5⟩ : ∃ X, ([a, b] == [80, 99]) = X := ⟨_, rfl⟩
    rw [q1, q2, q3, q4, q5]
    have g1 : (((BA [a, b]).extract 0 1).toList == [76]) = X1 := by rw [e1, f1]; exact q1
    have g2 : (((BA [a, b]).extract 0 1).toList == [77]) = X2 := by rw [e1, f1]; exact q2
    have g3 : ((BA [a, b]).toList == [78, 108]) = X3 := by rw [e2]; exact q3
    have g4 : ((BA [a, b]).toList == [78, 100]) = X4 := by rw [e2]; exact q4
    have g5 : ((BA [a, b]).toList == [80, 99]) = X5 := by rw [e2]; exact q5
    clear q1 q2 q3 q4 q5 e1 e2 f1
    generalize BA [a, b] = B at *
    cases X1 with
    | true =>
      go_enter Tryz.func19, Tryz.ntmps19
      go_wp2_with fail
      refine C.mono ?_
      rintro e w1 ⟨rfl, hb⟩
      clear C
      go_wp2
      go_ret
      exact ⟨rfl, hb⟩
    | false =>
    cases X2 with
    | true =>
      go_enter Tryz.func19, Tryz.ntmps19
      go_wp2_with fail
      refine C.mono ?_
      rintro e w1 ⟨rfl, hb⟩
      clear C
      go_wp2
      go_ret
      exact ⟨rfl, hb⟩
    | false =>
    cases X3 with
    | true =>
      go_enter Tryz.func19, Tryz.ntmps19
      go_wp2_with fail
      refine C.mono ?_
      rintro e w1 ⟨rfl, hb⟩
      clear C
      go_wp2
      go_ret
      exact ⟨rfl, hb⟩
    | false =>
    cases X4 with
    | true =>
      go_enter Tryz.func19, Tryz.ntmps19
      go_wp2_with fail
      refine C.mono ?_
      rintro e w1 ⟨rfl, hb⟩
      clear C
      go_wp2
      go_ret
      exact ⟨rfl, hb⟩
    | false =>
      go_enter Tryz.func19, Tryz.ntmps19
      go_wp2_with fail
      refine C.mono ?_
      rintro e w1 ⟨rfl, hb⟩
      clear C
      go_wp2
      go_ret
      exact ⟨by first | rfl | simp, hb⟩
set_option maxHeartbeats 1000000 in
set_option maxRecDepth 1000000 in
theorem simple_any (tv : Value) (F : Int → Bool) (ao : Option Addr) (N cap : Nat) (l : List Int) (i : Int) (w : World) (hv : IV w (.slice ao N cap) l) (hN : N ≤ 9223372036854775807)
    (HI : Hid (∀ W r, Below w.heap.size w W → Calls Tryz.prog 18 #[tv, .int .i64 r] W fun e w' => e = .returned (.bool (F r)) ∧ Below W.heap.size W w')) :
    Calls Tryz.prog 16 #[tv, .slice ao N cap, .int .i64 i] w fun e w' => e = .returned (.bool (simF F l i)) ∧ Below w.heap.size w w' := by
  obtain ⟨hl, hat⟩ := iv_cells hv
  obtain ⟨R, hR⟩ : ∃ R, simF F l i = R := ⟨_, rfl⟩
  have HE : Hid ((if i < 0 ∨ (N : Int) < i then false else ((decide (0 < i) && F (l.getD (i - 1).toNat 0)) != (decide (i < N) && F (l.getD i.toNat 0)))) = R) := by unfold Hid; rw [← hR, ← hl]; rfl
  rw [hR]
  clear hR hl hv
  by_cases h1 : i < 0
  · have hRf : R = false := by rw [← HE.out, if_pos (.inl h1)]
    clear HE HI hat
    subst hRf
    go_enter Tryz.func16, Tryz.ntmps16
    go_wp2
    try rw [Exit.noGoto_ret]
    go_ret
    exact ⟨rfl, Below.refl _ _⟩
  by_cases h2 : (N : Int) < i
  · have hRf : R = false := by rw [← HE.out, if_pos (.inr h2)]
    clear HE HI hat
    subst hRf
    go_enter Tryz.func16, Tryz.ntmps16
    go_wp2
    try rw [Exit.noGoto_ret]
    go_ret
    exact ⟨rfl, Below.refl _ _⟩
  obtain ⟨n, rfl⟩ : ∃ n : Nat, i = (n : Int) := ⟨i.toNat, by omega⟩
  have hRf : R = ((decide (0 < (n : Int)) && F (l.getD ((n : Int) - 1).toNat 0)) != (decide ((n : Int) < N) && F (l.getD n 0))) := by rw [← HE.out, if_neg (by omega), Int.toNat_natCast]
  clear HE
  rcases Nat.eq_zero_or_pos n with hn0 | hn0
  · have d1 : decide (0 < (n : Int)) = false := by rw [decide_eq_false_iff_not]; omega
    rw [d1, Bool.false_and] at hRf
    by_cases hnN : (n : Int) < N
    · obtain ⟨y, b, o, rfl, cy, hy⟩ := hat n (by omega)
      have ey : l.getD n 0 = y := by rw [List.getD_eq_getElem?_getD, hy]; rfl
      rw [decide_eq_true hnN, Bool.true_and, ey] at hRf
      have k1 : ¬ (0 : Int) < (n : Int) := by omega
      have k2 : (0 : Int) ≤ (n : Int) := by omega
      have C := HI.out w y (Below.refl _ _)
      have HR : Hid (R = (false != F y)) := hRf
      clear hRf hat hy ey hn0 d1 HI
      generalize F y = Y at *
      go_enter Tryz.func16, Tryz.ntmps16
      go_wp2_with fail
      refine C.mono ?_
      rintro e w1 ⟨rfl, b1⟩
      clear C cy
      go_wp2
      go_ret
      exact ⟨by rw [HR.out]; first | rfl | (cases Y <;> rfl), b1⟩
    · rw [decide_eq_false hnN, Bool.false_and] at hRf
      have k1 : ¬ (0 : Int) < (n : Int) := by omega
      have HR : Hid (R = false) := hRf
      clear hRf hat hn0 d1 HI
      go_enter Tryz.func16, Tryz.ntmps16
      go_wp2
      go_ret
      exact ⟨by rw [HR.out]; rfl, Below.refl _ _⟩
  · obtain ⟨m, hm⟩ : ∃ m : Nat, (m : Int) = (n : Int) - 1 := ⟨n - 1, by omega⟩
    obtain ⟨x, b, o, rfl, cx, hx⟩ := hat m (by omega)
    have ex : l.getD ((n : Int) - 1).toNat 0 = x := by rw [← hm, Int.toNat_natCast, List.getD_eq_getElem?_getD, hx]; rfl
    have k1 : (0 : Int) < (n : Int) := by omega
    rw [decide_eq_true k1, Bool.true_and, ex] at hRf
    have w0 : IntKind.i64.wrap ((n : Int) - 1) = (m : Int) := by rw [IntKind.wrap_i64]; omega
    have k3 : (0 : Int) ≤ (m : Int) := by omega
    have k4 : (m : Int) < (N : Int) := by omega
    have C := HI.out w x (Below.refl _ _)
    by_cases hnN : (n : Int) < N
    · obtain ⟨y, b', o', e', cy, hy⟩ := hat n (by omega)
      injection e' with e'
      injection e' with e1 e2
      subst e1 e2
      have ey : l.getD n 0 = y := by rw [List.getD_eq_getElem?_getD, hy]; rfl
      rw [decide_eq_true hnN, Bool.true_and, ey] at hRf
      have k2 : (0 : Int) ≤ (n : Int) := by omega
      have HR : Hid (R = (F x != F y)) := hRf
      have HIY : Hid (∀ W, Below w.heap.size w W → Calls Tryz.prog 18 #[tv, .int .i64 y] W fun e w' => e = .returned (.bool (F y)) ∧ Below W.heap.size W w') := fun W hb => HI.out W y hb
      clear hRf hat hy ey hx ex hm hn0 HI
      generalize F x = X at *
      generalize F y = Y at *
      go_enter Tryz.func16, Tryz.ntmps16
      go_wp2_with fail
      refine C.mono ?_
      rintro e w1 ⟨rfl, b1⟩
      clear C cx
      have cy1 := cell_below b1 cy
      have C := HIY.out w1 b1
      clear cy
      go_wp2_with fail
      refine C.mono ?_
      rintro e w2 ⟨rfl, b2⟩
      clear C cy1
      go_wp2
      go_ret
      exact ⟨by rw [HR.out]; first | rfl | (cases X <;> cases Y <;> rfl), b1.trans (b2.mono b1.size)⟩
    · rw [decide_eq_false hnN, Bool.false_and] at hRf
      have HR : Hid (R = (F x != false)) := hRf
      clear hRf hat hx ex hm hn0 HI
      generalize F x = X at *
      go_enter Tryz.func16, Tryz.ntmps16
      go_wp2_with fail
      refine C.mono ?_
      rintro e w1 ⟨rfl, b1⟩
      clear C cx
      go_wp2
      go_ret
      exact ⟨by rw [HR.out]; first | rfl | (cases X <;> rfl), b1⟩
theorem simple_t (t : Nat) (ao : Option Addr) (N cap : Nat) (l : List Int) (i : Int) (w : World) (h : Tabs w t) (hv : Txt w ao N cap l) :
    Calls Tryz.prog 16 #[.pointer (some ⟨t, 0, none⟩), .slice ao N cap, .int .i64 i] w fun e w' => e = .returned (.bool (simF isW l i)) ∧ Below w.heap.size w w' :=
  simple_any _ isW ao N cap l i w hv.iv (by have := hv.len; omega) (fun W r hb => is_t t r W (h.below hb))
theorem simF_false (l : List Int) (i : Int) : simF (fun _ => false) l i = false := by
  unfold simF
  rw [Bool.and_false, Bool.and_false]
  split <;> rfl
theorem simple_no (v : Value) (ao : Option Addr) (N cap : Nat) (l : List Int) (i : Int) (w : World) (h : Unmade w v) (hv : IV w (.slice ao N cap) l) (hN : N ≤ 9223372036854775807) :
    Calls Tryz.prog 16 #[v, .slice ao N cap, .int .i64 i] w fun e w' => e = .returned (.bool false) ∧ Below w.heap.size w w' := by
  have := simple_any v (fun _ => false) ao N cap l i w hv hN (fun W r hb => is_no v r W (h.below hb))
  rwa [simF_false] at this
set_option maxHeartbeats 1000000 in
set_option maxRecDepth 1000000 in
theorem rsimple_any (tv : Value) (F : Int → Bool) (ao : Option Addr) (N cap : Nat) (l : List Int) (i : Int) (w : World) (hv : IV w (.slice ao N cap) l) (hN : N ≤ 9223372036854775807)
    (HI : Hid (∀ W r, Below w.heap.size w W → Calls Tryz.prog 19 #[tv, .int .i64 r] W fun e w' => e = .returned (.bool (F r)) ∧ Below W.heap.size W w')) :
    Calls Tryz.prog 17 #[tv, .slice ao N cap, .int .i64 i] w fun e w' => e = .returned (.bool (simF F l i)) ∧ Below w.heap.size w w' := by
  obtain ⟨hl, hat⟩ := iv_cells hv
  obtain ⟨R, hR⟩ : ∃ R, simF F l i = R := ⟨_, rfl⟩
  have HE : Hid ((if i < 0 ∨ (N : Int) < i then false else ((decide (0 < i) && F (l.getD (i - 1).toNat 0)) != (decide (i < N) && F (l.getD i.toNat 0)))) = R) := by unfold Hid; rw [← hR, ← hl]; rfl
  rw [hR]
  clear hR hl hv
  by_cases h1 : i < 0
  · have hRf : R = false := by rw [← HE.out, if_pos (.inl h1)]
    clear HE HI hat
    subst hRf
    go_enter Tryz.func17, Tryz.ntmps17
    go_wp2
    try rw [Exit.noGoto_ret]
    go_ret
    exact ⟨rfl, Below.refl _ _⟩
  by_cases h2 : (N : Int) < i
  · have hRf : R = false := by rw [← HE.out, if_pos (.inr h2)]
    clear HE HI hat
    subst hRf
    go_enter Tryz.func17, Tryz.ntmps17
    go_wp2
    try rw [Exit.noGoto_ret]
    go_ret
    exact ⟨rfl, Below.refl _ _⟩
  obtain ⟨n, rfl⟩ : ∃ n : Nat, i = (n : Int) := ⟨i.toNat, by omega⟩
  have hRf : R = ((decide (0 < (n : Int)) && F (l.getD ((n : Int) - 1).toNat 0)) != (decide ((n : Int) < N) && F (l.getD n 0))) := by rw [← HE.out, if_neg (by omega), Int.toNat_natCast]
  clear HE
  rcases Nat.eq_zero_or_pos n with hn0 | hn0
  · have d1 : decide (0 < (n : Int)) = false := by rw [decide_eq_false_iff_not]; omega
    rw [d1, Bool.false_and] at hRf
    by_cases hnN : (n : Int) < N
    · obtain ⟨y, b, o, rfl, cy, hy⟩ := hat n (by omega)
      have ey : l.getD n 0 = y := by rw [List.getD_eq_getElem?_getD, hy]; rfl
      rw [decide_eq_true hnN, Bool.true_and, ey] at hRf
      have k1 : ¬ (0 : Int) < (n : Int) := by omega
      have k2 : (0 : Int) ≤ (n : Int) := by omega
      have C := HI.out w y (Below.refl _ _)
      have HR : Hid (R = (false != F y)) := hRf
      clear hRf hat hy ey hn0 d1 HI
      generalize F y = Y at *
      go_enter Tryz.func17, Tryz.ntmps17
      go_wp2_with fail
      refine C.mono ?_
      rintro e w1 ⟨rfl, b1⟩
      clear C cy
      go_wp2
      go_ret
      exact ⟨by rw [HR.out]; first | rfl | (cases Y <;> rfl), b1⟩
    · rw [decide_eq_false hnN, Bool.false_and] at hRf
      have k1 : ¬ (0 : Int) < (n : Int) := by omega
      have HR : Hid (R = false) := hRf
      clear hRf hat hn0 d1 HI
      go_enter Tryz.func17, Tryz.ntmps17
      go_wp2
      go_ret
      exact ⟨by rw [HR.out]; rfl, Below.refl _ _⟩
  · obtain ⟨m, hm⟩ : ∃ m : Nat, (m : Int) = (n : Int) - 1 := ⟨n - 1, by omega⟩
    obtain ⟨x, b, o, rfl, cx, hx⟩ := hat m (by omega)
    have ex : l.getD ((n : Int) - 1).toNat 0 = x := by rw [← hm, Int.toNat_natCast, List.getD_eq_getElem?_getD, hx]; rfl
    have k1 : (0 : Int) < (n : Int) := by omega
    rw [decide_eq_true k1, Bool.true_and, ex] at hRf
    have w0 : IntKind.i64.wrap ((n : Int) - 1) = (m : Int) := by rw [IntKind.wrap_i64]; omega
    have k3 : (0 : Int) ≤ (m : Int) := by omega
    have k4 : (m : Int) < (N : Int) := by omega
    have C := HI.out w x (Below.refl _ _)
    by_cases hnN : (n : Int) < N
    · obtain ⟨y, b', o', e', cy, hy⟩ := hat n (by omega)
      injection e' with e'
      injection e' with e1 e2
      subst e1 e2
      have ey : l.getD n 0 = y := by rw [List.getD_eq_getElem?_getD, hy]; rfl
      rw [decide_eq_true hnN, Bool.true_and, ey] at hRf
      have k2 : (0 : Int) ≤ (n : Int) := by omega
      have HR : Hid (R = (F x != F y)) := hRf
      have HIY : Hid (∀ W, Below w.heap.size w W → Calls Tryz.prog 19 #[tv, .int .i64 y] W fun e w' => e = .returned (.bool (F y)) ∧ Below W.heap.size W w') := fun W hb => HI.out W y hb
      clear hRf hat hy ey hx ex hm hn0 HI
      generalize F x = X at *
      generalize F y = Y at *
      go_enter Tryz.func17, Tryz.ntmps17
      go_wp2_with fail
      refine C.mono ?_
      rintro e w1 ⟨rfl, b1⟩
      clear C cx
      have cy1 := cell_below b1 cy
      have C := HIY.out w1 b1
      clear cy
      go_wp2_with fail
      refine C.mono ?_
      rintro e w2 ⟨rfl, b2⟩
      clear C cy1
      go_wp2
      go_ret
      exact ⟨by rw [HR.out]; first | rfl | (cases X <;> cases Y <;> rfl), b1.trans (b2.mono b1.size)⟩
    · rw [decide_eq_false hnN, Bool.false_and] at hRf
      have HR : Hid (R = (F x != false)) := hRf
      clear hRf hat hx ex hm hn0 HI
      generalize F x = X at *
      go_enter Tryz.func17, Tryz.ntmps17
      go_wp2_with fail
      refine C.mono ?_
      rintro e w1 ⟨rfl, b1⟩
      clear C cx
      go_wp2
      go_ret
      exact ⟨by rw [HR.out]; first | rfl | (cases X <;> rfl), b1⟩
theorem rsimple_t (u : Nat) (ao : Option Addr) (N cap : Nat) (l : List Int) (i : Int) (w : World) (h : RTabs w u) (hv : Txt w ao N cap l) :
    Calls Tryz.prog 17 #[.pointer (some ⟨u, 0, none⟩), .slice ao N cap, .int .i64 i] w fun e w' => e = .returned (.bool (simF isW l i)) ∧ Below w.heap.size w w' :=
  rsimple_any _ isW ao N cap l i w hv.iv (by have := hv.len; omega) (fun W r hb => ris_t u r W (h.below hb))
end Go.Proofs.YtcmhkfiijdomiaaGreatDoor.wrd
end
