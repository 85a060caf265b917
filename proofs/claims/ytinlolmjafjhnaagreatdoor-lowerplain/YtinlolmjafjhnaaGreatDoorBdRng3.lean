/- Texts that the proof leans on, one behind the other. -/
import Derived.Test.YtinlolmjafjhnaaGreatDoorBdRng2
import Derived.Test.YtinlolmjafjhnaaGreatDoorBdRng1

section
/- What ranges.combine answers, and so Union, Meet, Minus, Xor and Not: the set of what the way of both says. -/
set_option linter.unusedVariables false
set_option linter.unusedSimpArgs false
namespace Go.Proofs.YtinlolmjafjhnaaGreatDoor.rng
open Go.RowKit

theorem odd_eq (i : Nat) : ((i : Int) % 2 == 1) = decide (i % 2 = 1) := by
 rw [Bool.eq_iff_iff, beq_iff_eq, decide_eq_true_eq]; omega

theorem odd_eq1 (i : Nat) : (((i : Int) + 1) % 2 == 1) = decide ((i + 1) % 2 = 1) := by
 rw [Bool.eq_iff_iff, beq_iff_eq, decide_eq_true_eq]; omega

set_option maxHeartbeats 2000000 in
set_option maxRecDepth 1000000 in
theorem comb_any (g : Nat) (K : Bool → Bool → Bool) (eg : ∀ args w, (callFunc g args).run Tryz.prog w = .ok (.enter g args) w) (hK : ∀ x y W, Calls Tryz.prog g #[.bool x, .bool y] W fun e w' => e = .returned (.bool (K x y)) ∧ w' = W) (hK0 : K false false = false)
  (a1 a2 : Option Addr) (c1 c2 : Nat) (l m : List R) (w : World) (hn : l.length ≤ 1000000) (hm : m.length ≤ 1000000) (h1 : RV w a1 l) (h2 : RV w a2 m) :
  Calls Tryz.prog 177 #[.slice a1 l.length c1, .slice a2 m.length c2, .func (.func g) #[] #[]] w fun e w' => ∃ v r, e = .returned v ∧ Own w' w.heap.size v r ∧ IsSet r (fun x => K (has l x) (has m x)) ∧ Below w.heap.size w w' := by
 obtain ⟨i0, hi, hz0, hz1, hz2⟩ := info_parts infoRange
 have C1 := edges_any a1 c1 l w hn h1
 have C2 := fun W (h : RV W a2 m) => edges_any a2 c2 m W hm h
 have H2 : Hid (RV w a2 m) := h2
 have HK : Hid (∀ x y W, Calls Tryz.prog g #[.bool x, .bool y] W fun e w' => e = .returned (.bool (K x y)) ∧ w' = W) := hK
 have HK0 : Hid (K false false = false) := hK0
 clear h1 h2 hn hm hK hK0
 generalize l.length = n1 at *
 generalize m.length = n2 at *
 go_enter Tryz.func177, Tryz.ntmps177
 go_wp2_with fail
 refine C1.mono ?_
 rintro e w1 ⟨v1, r, rfl, ho1, hr, hb1⟩
 go_wp2_with fail
 refine (C2 _ (H2.out.below hb1)).mono ?_
 rintro e w2 ⟨v2, s, rfl, ho2, hs, hb2⟩
 have hb := hb1.trans (hb2.mono hb1.size)
 have ho1' := ho1.below hb2
 obtain ⟨b1, d1, rfl, hv1, _, _⟩ := OwnI.view ho1'
 obtain ⟨b2, d2, rfl, hv2, _, _⟩ := OwnI.view ho2
 have HV1 : Hid (IV w2 b1 (ed r)) := hv1
 have HV2 : Hid (IV w2 b2 (ed s)) := hv2
 have HR : Hid (IsSet r (has l)) := hr
 have HS : Hid (IsSet s (has m)) := hs
 have HI : Hid (CoInv r s K 0 0 0 false [] (-1)) := CoInv.start hr.1 hs.1 HK0.out
 have q1 : (ed r).length ≤ 4000000 := by have := can_len hr.1; rw [ed_length]; omega
 have q2 : (ed s).length ≤ 4000000 := by have := can_len hs.1; rw [ed_length]; omega
 have E1 := fun i W (h : i ≤ (ed r).length) (hv : IV W b1 (ed r)) => edgeAt_any b1 d1 (ed r) i W q1 h hv
 have E2 := fun i W (h : i ≤ (ed s).length) (hv : IV W b2 (ed s)) => edgeAt_any b2 d2 (ed s) i W q2 h hv
 obtain ⟨N1, hN1⟩ : ∃ N, (ed r).length = N := ⟨_, rfl⟩
 obtain ⟨N2, hN2⟩ : ∃ N, (ed s).length = N := ⟨_, rfl⟩
 rw [hN1] at E1 q1 ⊢
 rw [hN2] at E2 q2 ⊢
 have HN1 : Hid ((ed r).length = N1) := hN1
 have HN2 : Hid ((ed s).length = N2) := hN2
 have HE1 : Hid (∀ (i : Nat) (W : World), i ≤ N1 → IV W b1 (ed r) → Calls Tryz.prog 224 #[.slice b1 N1 d1, .int .i64 i] W fun e w' => e = .returned (.int .i64 (eat (ed r) i)) ∧ w' = W) := E1
 have HE2 : Hid (∀ (i : Nat) (W : World), i ≤ N2 → IV W b2 (ed s) → Calls Tryz.prog 224 #[.slice b2 N2 d2, .int .i64 i] W fun e w' => e = .returned (.int .i64 (eat (ed s) i)) ∧ w' = W) := E2
 clear C1 C2 ho1 ho1' ho2 hr hs hv1 hv2 hN1 hN2 E1 E2 H2 hb1 hb2
 have hbs := hb.size
 go_wp2
 go_loopw [9, 10, 11, 12, 13] (fun o i k lo ins wr => ∃ (I J : Nat) (LO : Int) (INS : Bool) (out : List R) (pos : Int), i = .int .i64 I ∧ k = .int .i64 J ∧ lo = .int .i64 LO ∧ ins = .bool INS ∧ I ≤ N1 ∧ J ≤ N2 ∧ out.length ≤ I + J ∧ Hid (CoInv r s K I J LO INS out pos) ∧ wr.ownsRow w2.heap.size 66 2 o out.length (flat out) ∧ Below w2.heap.size w2 wr)
  (fun _ i k _ _ _ => (N1 + N2) - ((intOf i).toNat + (intOf k).toNat))
 case atStart => exact ⟨0, 0, 0, false, [], -1, rfl, rfl, rfl, rfl, Nat.zero_le _, Nat.zero_le _, Nat.le_refl _, HI, World.ownsRow_nil _ _ _ _, Below.refl _ _⟩
 case round =>
  obtain ⟨I, J, LO, INS, out, pos, rfl, rfl, rfl, rfl, hI, hJ, hol, HC, hown, hbel⟩ := hrel
  clear HI
  have hs1 := hbel.size
  by_cases hgo : I < N1 ∨ J < N2
  ·have HA := HE1.out I wr hI (HV1.out.below hbel)
   have HB := HE2.out J wr hJ (HV2.out.below hbel)
   have HST : Hid (∀ (a : Int) (i' k' : Nat) (b : Bool), a = min (eat (ed r) I) (eat (ed s) J) → (i' = if eat (ed r) I = a then I + 1 else I) → (k' = if eat (ed s) J = a then J + 1 else J) → b = K (decide (i' % 2 = 1)) (decide (k' % 2 = 1)) →
     0 ≤ a ∧ a ≤ 1114112 ∧ (INS = true → 0 ≤ LO ∧ LO < a) ∧ i' + k' > I + J ∧ CoInv r s K i' k' (if b && !INS then a else LO) b (if !b && INS then out ++ [(LO, a - 1)] else out) a) := fun a i' k' b e1 e2 e3 e4 => HC.out.step HR.out.1 HS.out.1 (by rw [HN1.out, HN2.out]; exact hgo) e1 e2 e3 e4
   generalize eat (ed r) I = A at *
   generalize eat (ed s) J = B at *
   clear HC
   rcases (show (A < B) ∨ A = B ∨ B < A by omega) with hab | hab | hab
   ·have hmin : min A B = A := by omega
    have hba : (B == A) = false := by simp; omega
    obtain ⟨bb, hbb⟩ : ∃ b, K (decide ((I + 1) % 2 = 1)) (decide ((J) % 2 = 1)) = b := ⟨_, rfl⟩
    obtain ⟨t0, t1, hlo, hmore, hco⟩ := HST.out A (I + 1) (J) bb (by omega) (by first | rw [if_pos (by omega)] | rw [if_neg (by omega)]) (by first | rw [if_pos (by omega)] | rw [if_neg (by omega)]) hbb.symm
    obtain ⟨l1, l2⟩ := hco.len
    rw [HN1.out] at l1
    rw [HN2.out] at l2
    have HCO : Hid (CoInv r s K (I + 1) (J) (if bb && !INS then A else LO) bb (if !bb && INS then out ++ [(LO, A - 1)] else out) A) := hco
    have HBB : Hid (K (((I : Int) + 1) % 2 == 1) ((J : Int) % 2 == 1) = bb) := by unfold Hid; rw [odd_eq1 I, odd_eq J]; exact hbb
    have HW : Hid (∀ j, u9.ownBlock = some j → w2.heap.size ≤ j) := fun j e => (hown.lt _ e).1
    clear hco hbb HST
    have hIN : I < N1 := by omega
    all_goals
     go_wp2_with fail
     refine HA.mono ?_
     rintro e wz ⟨rfl, rfl⟩
     go_wp2_with fail
     refine HB.mono ?_
     rintro e wz ⟨rfl, rfl⟩
     go_wp2_with fail
     refine HA.mono ?_
     rintro e wz ⟨rfl, rfl⟩
     go_wp2_with fail
     refine HB.mono ?_
     rintro e wz ⟨rfl, rfl⟩
     go_wp2_with fail
     refine (HK.out _ _ _).mono ?_
     rintro e wz ⟨rfl, rfl⟩
     rw [HBB.out]
     clear HA HB HBB
     cases bb <;> cases INS
     ·go_wp2
      go_roundw
      case rel => exact ⟨I + 1, J, LO, false, out, A, by go_num, rfl, rfl, rfl, l1, l2, by omega, HCO, hown, hbel⟩
      case measure => simp [intOf]; omega
     ·have hlo' := hlo rfl
      obtain ⟨hl0, hl1⟩ := hlo'
      clear hlo
      go_wp2_with (at_builtin; refine wpList_append_own _ rfl _ _ 22 rfl w2.heap.size 66 i0 (.agg #[.int .i64 0, .int .i64 0]) 2 16 Tryz.underlying22 hi hz0 hz1 hz2 rfl (by decide) _ _ _ rfl (hown.alloc _) ⟨World.heap _ |>.size, 0, none⟩ 1 1 [.int .i64 LO, .int .i64 (A - 1)] rfl rfl ?c1 ?c2 ?c3 ?c4 ?c5 ?_)
      case c1 => exact one_new _ _ _ _
      case c2 => intro u hu; simp at hu; rcases hu with rfl | rfl <;> rfl
      case c3 => unfold maxLen; omega
      case c4 => omega
      case c5 => simp; omega
      ·intro v' w3 hown2 hgrow _
       have R2 := Below.grown (hbel.alloc hs1 (.cells #[.int .i64 LO, .int .i64 (A - 1)] 66)) hgrow (by simp; omega) HW.out
       have R1 : w3.ownsRow w2.heap.size 66 2 v' (out ++ [(LO, A - 1)]).length (flat (out ++ [(LO, A - 1)])) := by
        rw [flat_append, flat_two, List.length_append]; exact hown2
       have R3 : (out ++ [(LO, A - 1)]).length ≤ (I + 1) + (J) := by rw [List.length_append]; simp; omega
       clear hown2 hgrow
       go_wp2
       go_roundw
       case rel => exact ⟨I + 1, J, LO, false, out ++ [(LO, A - 1)], A, by go_num, rfl, rfl, rfl, l1, l2, R3, HCO, R1, R2⟩
       case measure => simp [intOf]; omega
     ·go_wp2
      go_roundw
      case rel => exact ⟨I + 1, J, A, true, out, A, by go_num, rfl, rfl, rfl, l1, l2, by omega, HCO, hown, hbel⟩
      case measure => simp [intOf]; omega
     ·go_wp2
      go_roundw
      case rel => exact ⟨I + 1, J, LO, true, out, A, by go_num, rfl, rfl, rfl, l1, l2, by omega, HCO, hown, hbel⟩
      case measure => simp [intOf]; omega
   ·subst hab
    have hmin : min A A = A := by omega
    obtain ⟨bb, hbb⟩ : ∃ b, K (decide ((I + 1) % 2 = 1)) (decide ((J + 1) % 2 = 1)) = b := ⟨_, rfl⟩
    obtain ⟨t0, t1, hlo, hmore, hco⟩ := HST.out A (I + 1) (J + 1) bb (by omega) (by first | rw [if_pos (by omega)] | rw [if_neg (by omega)]) (by first | rw [if_pos (by omega)] | rw [if_neg (by omega)]) hbb.symm
    obtain ⟨l1, l2⟩ := hco.len
    rw [HN1.out] at l1
    rw [HN2.out] at l2
    have HCO : Hid (CoInv r s K (I + 1) (J + 1) (if bb && !INS then A else LO) bb (if !bb && INS then out ++ [(LO, A - 1)] else out) A) := hco
    have HBB : Hid (K (((I : Int) + 1) % 2 == 1) (((J : Int) + 1) % 2 == 1) = bb) := by unfold Hid; rw [odd_eq1 I, odd_eq1 J]; exact hbb
    have HW : Hid (∀ j, u9.ownBlock = some j → w2.heap.size ≤ j) := fun j e => (hown.lt _ e).1
    clear hco hbb HST
    have hIN : I < N1 := by omega
    all_goals
     go_wp2_with fail
     refine HA.mono ?_
     rintro e wz ⟨rfl, rfl⟩
     go_wp2_with fail
     refine HB.mono ?_
     rintro e wz ⟨rfl, rfl⟩
     go_wp2_with fail
     refine HA.mono ?_
     rintro e wz ⟨rfl, rfl⟩
     go_wp2_with fail
     refine HB.mono ?_
     rintro e wz ⟨rfl, rfl⟩
     go_wp2_with fail
     refine (HK.out _ _ _).mono ?_
     rintro e wz ⟨rfl, rfl⟩
     rw [HBB.out]
     clear HA HB HBB
     cases bb <;> cases INS
     ·go_wp2
      go_roundw
      case rel => exact ⟨I + 1, J + 1, LO, false, out, A, by go_num, by go_num, rfl, rfl, l1, l2, by omega, HCO, hown, hbel⟩
      case measure => simp [intOf]; omega
     ·have hlo' := hlo rfl
      obtain ⟨hl0, hl1⟩ := hlo'
      clear hlo
      go_wp2_with (at_builtin; refine wpList_append_own _ rfl _ _ 22 rfl w2.heap.size 66 i0 (.agg #[.int .i64 0, .int .i64 0]) 2 16 Tryz.underlying22 hi hz0 hz1 hz2 rfl (by decide) _ _ _ rfl (hown.alloc _) ⟨World.heap _ |>.size, 0, none⟩ 1 1 [.int .i64 LO, .int .i64 (A - 1)] rfl rfl ?c1 ?c2 ?c3 ?c4 ?c5 ?_)
      case c1 => exact one_new _ _ _ _
      case c2 => intro u hu; simp at hu; rcases hu with rfl | rfl <;> rfl
      case c3 => unfold maxLen; omega
      case c4 => omega
      case c5 => simp; omega
      ·intro v' w3 hown2 hgrow _
       have R2 := Below.grown (hbel.alloc hs1 (.cells #[.int .i64 LO, .int .i64 (A - 1)] 66)) hgrow (by simp; omega) HW.out
       have R1 : w3.ownsRow w2.heap.size 66 2 v' (out ++ [(LO, A - 1)]).length (flat (out ++ [(LO, A - 1)])) := by
        rw [flat_append, flat_two, List.length_append]; exact hown2
       have R3 : (out ++ [(LO, A - 1)]).length ≤ (I + 1) + (J + 1) := by rw [List.length_append]; simp; omega
       clear hown2 hgrow
       go_wp2
       go_roundw
       case rel => exact ⟨I + 1, J + 1, LO, false, out ++ [(LO, A - 1)], A, by go_num, by go_num, rfl, rfl, l1, l2, R3, HCO, R1, R2⟩
       case measure => simp [intOf]; omega
     ·go_wp2
      go_roundw
      case rel => exact ⟨I + 1, J + 1, A, true, out, A, by go_num, by go_num, rfl, rfl, l1, l2, by omega, HCO, hown, hbel⟩
      case measure => simp [intOf]; omega
     ·go_wp2
      go_roundw
      case rel => exact ⟨I + 1, J + 1, LO, true, out, A, by go_num, by go_num, rfl, rfl, l1, l2, by omega, HCO, hown, hbel⟩
      case measure => simp [intOf]; omega
   ·have hmin : min A B = B := by omega
    have hba : (A == B) = false := by simp; omega
    obtain ⟨bb, hbb⟩ : ∃ b, K (decide ((I) % 2 = 1)) (decide ((J + 1) % 2 = 1)) = b := ⟨_, rfl⟩
    obtain ⟨t0, t1, hlo, hmore, hco⟩ := HST.out B (I) (J + 1) bb (by omega) (by first | rw [if_pos (by omega)] | rw [if_neg (by omega)]) (by first | rw [if_pos (by omega)] | rw [if_neg (by omega)]) hbb.symm
    obtain ⟨l1, l2⟩ := hco.len
    rw [HN1.out] at l1
    rw [HN2.out] at l2
    have HCO : Hid (CoInv r s K (I) (J + 1) (if bb && !INS then B else LO) bb (if !bb && INS then out ++ [(LO, B - 1)] else out) B) := hco
    have HBB : Hid (K ((I : Int) % 2 == 1) (((J : Int) + 1) % 2 == 1) = bb) := by unfold Hid; rw [odd_eq I, odd_eq1 J]; exact hbb
    have HW : Hid (∀ j, u9.ownBlock = some j → w2.heap.size ≤ j) := fun j e => (hown.lt _ e).1
    clear hco hbb HST
    by_cases hIN : I < N1
    all_goals
     go_wp2_with fail
     refine HA.mono ?_
     rintro e wz ⟨rfl, rfl⟩
     go_wp2_with fail
     refine HB.mono ?_
     rintro e wz ⟨rfl, rfl⟩
     go_wp2_with fail
     refine HA.mono ?_
     rintro e wz ⟨rfl, rfl⟩
     go_wp2_with fail
     refine HB.mono ?_
     rintro e wz ⟨rfl, rfl⟩
     go_wp2_with fail
     refine (HK.out _ _ _).mono ?_
     rintro e wz ⟨rfl, rfl⟩
     rw [HBB.out]
     clear HA HB HBB
     cases bb <;> cases INS
     ·go_wp2
      go_roundw
      case rel => exact ⟨I, J + 1, LO, false, out, B, rfl, by go_num, rfl, rfl, l1, l2, by omega, HCO, hown, hbel⟩
      case measure => simp [intOf]; omega
     ·have hlo' := hlo rfl
      obtain ⟨hl0, hl1⟩ := hlo'
      clear hlo
      go_wp2_with (at_builtin; refine wpList_append_own _ rfl _ _ 22 rfl w2.heap.size 66 i0 (.agg #[.int .i64 0, .int .i64 0]) 2 16 Tryz.underlying22 hi hz0 hz1 hz2 rfl (by decide) _ _ _ rfl (hown.alloc _) ⟨World.heap _ |>.size, 0, none⟩ 1 1 [.int .i64 LO, .int .i64 (B - 1)] rfl rfl ?c1 ?c2 ?c3 ?c4 ?c5 ?_)
      case c1 => exact one_new _ _ _ _
      case c2 => intro u hu; simp at hu; rcases hu with rfl | rfl <;> rfl
      case c3 => unfold maxLen; omega
      case c4 => omega
      case c5 => simp; omega
      ·intro v' w3 hown2 hgrow _
       have R2 := Below.grown (hbel.alloc hs1 (.cells #[.int .i64 LO, .int .i64 (B - 1)] 66)) hgrow (by simp; omega) HW.out
       have R1 : w3.ownsRow w2.heap.size 66 2 v' (out ++ [(LO, B - 1)]).length (flat (out ++ [(LO, B - 1)])) := by
        rw [flat_append, flat_two, List.length_append]; exact hown2
       have R3 : (out ++ [(LO, B - 1)]).length ≤ (I) + (J + 1) := by rw [List.length_append]; simp; omega
       clear hown2 hgrow
       go_wp2
       go_roundw
       case rel => exact ⟨I, J + 1, LO, false, out ++ [(LO, B - 1)], B, rfl, by go_num, rfl, rfl, l1, l2, R3, HCO, R1, R2⟩
       case measure => simp [intOf]; omega
     ·go_wp2
      go_roundw
      case rel => exact ⟨I, J + 1, B, true, out, B, rfl, by go_num, rfl, rfl, l1, l2, by omega, HCO, hown, hbel⟩
      case measure => simp [intOf]; omega
     ·go_wp2
      go_roundw
      case rel => exact ⟨I, J + 1, LO, true, out, B, rfl, by go_num, rfl, rfl, l1, l2, by omega, HCO, hown, hbel⟩
      case measure => simp [intOf]; omega
  ·have hI' : I = N1 := by omega
   have hJ' : J = N2 := by omega
   go_wp2
   go_ret
   refine ⟨_, out, rfl, own_mono hown hbs, ?_, hb.trans (hbel.mono hbs)⟩
   refine (HC.out.done HR.out.1 HS.out.1 HK0.out (by rw [HN1.out]; omega) (by rw [HN2.out]; omega)).congr (fun x hx => ?_)
   rw [HR.out.2 x hx, HS.out.2 x hx]

theorem union_fn (x y : Bool) (W : World) : Calls Tryz.prog 236 #[.bool x, .bool y] W fun e w' => e = .returned (.bool (x || y)) ∧ w' = W := by
 cases x <;> cases y <;> (go_enter Tryz.func236, Tryz.ntmps236; go_wp2; go_ret; exact ⟨rfl, rfl⟩)
theorem meet_fn (x y : Bool) (W : World) : Calls Tryz.prog 179 #[.bool x, .bool y] W fun e w' => e = .returned (.bool (x && y)) ∧ w' = W := by
 cases x <;> cases y <;> (go_enter Tryz.func179, Tryz.ntmps179; go_wp2; go_ret; exact ⟨rfl, rfl⟩)
theorem minus_fn (x y : Bool) (W : World) : Calls Tryz.prog 178 #[.bool x, .bool y] W fun e w' => e = .returned (.bool (x && !y)) ∧ w' = W := by
 cases x <;> cases y <;> (go_enter Tryz.func178, Tryz.ntmps178; go_wp2; go_ret; exact ⟨rfl, rfl⟩)
theorem xor_fn (x y : Bool) (W : World) : Calls Tryz.prog 188 #[.bool x, .bool y] W fun e w' => e = .returned (.bool (x != y)) ∧ w' = W := by
 cases x <;> cases y <;> (go_enter Tryz.func188, Tryz.ntmps188; go_wp2; go_ret; exact ⟨rfl, rfl⟩)

theorem union_any (a1 a2 : Option Addr) (c1 c2 : Nat) (l m : List R) (w : World) (hn : l.length ≤ 1000000) (hm : m.length ≤ 1000000) (h1 : RV w a1 l) (h2 : RV w a2 m) :
  Calls Tryz.prog 187 #[.slice a1 l.length c1, .slice a2 m.length c2] w fun e w' => ∃ v r, e = .returned v ∧ Own w' w.heap.size v r ∧ IsSet r (fun x => has l x || has m x) ∧ Below w.heap.size w w' := by
 have C := comb_any 236 (fun x y => x || y) (enters_of Tryz.func236 (by kernel_rfl) rfl) union_fn rfl a1 a2 c1 c2 l m w hn hm h1 h2
 clear hn hm h1 h2
 generalize l.length = n1 at *
 generalize m.length = n2 at *
 go_enter Tryz.func187, Tryz.ntmps187
 go_wp2_with fail
 refine C.mono ?_
 rintro e w1 ⟨v, r, rfl, ho, hs, hb⟩
 go_wp2
 go_ret
 exact ⟨v, r, rfl, ho, hs, hb⟩
theorem meet_any (a1 a2 : Option Addr) (c1 c2 : Nat) (l m : List R) (w : World) (hn : l.length ≤ 1000000) (hm : m.length ≤ 1000000) (h1 : RV w a1 l) (h2 : RV w a2 m) :
  Calls Tryz.prog 141 #[.slice a1 l.length c1, .slice a2 m.length c2] w fun e w' => ∃ v r, e = .returned v ∧ Own w' w.heap.size v r ∧ IsSet r (fun x => has l x && has m x) ∧ Below w.heap.size w w' := by
 have C := comb_any 179 (fun x y => x && y) (enters_of Tryz.func179 (by kernel_rfl) rfl) meet_fn rfl a1 a2 c1 c2 l m w hn hm h1 h2
 clear hn hm h1 h2
 generalize l.length = n1 at *
 generalize m.length = n2 at *
 go_enter Tryz.func141, Tryz.ntmps141
 go_wp2_with fail
 refine C.mono ?_
 rintro e w1 ⟨v, r, rfl, ho, hs, hb⟩
 go_wp2
 go_ret
 exact ⟨v, r, rfl, ho, hs, hb⟩
theorem minus_any (a1 a2 : Option Addr) (c1 c2 : Nat) (l m : List R) (w : World) (hn : l.length ≤ 1000000) (hm : m.length ≤ 1000000) (h1 : RV w a1 l) (h2 : RV w a2 m) :
  Calls Tryz.prog 139 #[.slice a1 l.length c1, .slice a2 m.length c2] w fun e w' => ∃ v r, e = .returned v ∧ Own w' w.heap.size v r ∧ IsSet r (fun x => has l x && !has m x) ∧ Below w.heap.size w w' := by
 have C := comb_any 178 (fun x y => x && !y) (enters_of Tryz.func178 (by kernel_rfl) rfl) minus_fn rfl a1 a2 c1 c2 l m w hn hm h1 h2
 clear hn hm h1 h2
 generalize l.length = n1 at *
 generalize m.length = n2 at *
 go_enter Tryz.func139, Tryz.ntmps139
 go_wp2_with fail
 refine C.mono ?_
 rintro e w1 ⟨v, r, rfl, ho, hs, hb⟩
 go_wp2
 go_ret
 exact ⟨v, r, rfl, ho, hs, hb⟩
theorem xor_any (a1 a2 : Option Addr) (c1 c2 : Nat) (l m : List R) (w : World) (hn : l.length ≤ 1000000) (hm : m.length ≤ 1000000) (h1 : RV w a1 l) (h2 : RV w a2 m) :
  Calls Tryz.prog 148 #[.slice a1 l.length c1, .slice a2 m.length c2] w fun e w' => ∃ v r, e = .returned v ∧ Own w' w.heap.size v r ∧ IsSet r (fun x => has l x != has m x) ∧ Below w.heap.size w w' := by
 have C := comb_any 188 (fun x y => x != y) (enters_of Tryz.func188 (by kernel_rfl) rfl) xor_fn rfl a1 a2 c1 c2 l m w hn hm h1 h2
 clear hn hm h1 h2
 generalize l.length = n1 at *
 generalize m.length = n2 at *
 go_enter Tryz.func148, Tryz.ntmps148
 go_wp2_with fail
 refine C.mono ?_
 rintro e w1 ⟨v, r, rfl, ho, hs, hb⟩
 go_wp2
 go_ret
 exact ⟨v, r, rfl, ho, hs, hb⟩
def allR : List R := [(0, 1114111)]
theorem has_all (x : Int) : has allR x = code x := by
 unfold allR; rw [has_cons, has_nil, Bool.or_false]
 cases h : code x
 ·rfl
 ·rw [(inP_iff (0, 1114111) x).2 ((code_iff x).1 h)]; rfl
theorem rv_all (w : World) : RV (w.alloc (.cells #[.int .i64 0, .int .i64 1114111] 66)) (some ⟨w.heap.size, 0, none⟩) allR := by
 refine .inr ⟨_, _, rfl, fun i p hi => ?_⟩
 have h0 : i = 0 := by have := (List.getElem?_eq_some_iff.1 hi).1; simp [allR] at this; exact this
 subst h0
 simp [allR] at hi
 subst hi
 simp
theorem not_any (a1 : Option Addr) (c1 : Nat) (l : List R) (w : World) (hn : l.length ≤ 1000000) (h1 : RV w a1 l) :
  Calls Tryz.prog 103 #[.slice a1 l.length c1] w fun e w' => ∃ v r, e = .returned v ∧ Own w' w.heap.size v r ∧ IsSet r (fun x => !has l x) ∧ Below w.heap.size w w' := by
 have B0 := (Below.refl w.heap.size w).alloc (Nat.le_refl _) (.cells #[.int .i64 0, .int .i64 1114111] 66)
 have C := minus_any _ a1 1 c1 allR l _ (by decide) hn (rv_all w) (h1.below B0)
 have e1 : allR.length = 1 := rfl
 rw [e1] at C
 clear hn h1
 generalize l.length = n1 at *
 go_enter Tryz.func103, Tryz.ntmps103
 go_wp2_with fail
 refine C.mono ?_
 rintro e w1 ⟨v, r, rfl, ho, hs, hb⟩
 go_wp2
 go_ret
 refine ⟨v, r, rfl, own_mono ho (by simp), hs.congr (fun x hx => by rw [has_all, hx]; rfl), B0.trans (hb.mono (by simp))⟩
end Go.Proofs.YtinlolmjafjhnaaGreatDoor.rng
end

section
/- What the document's sorted answers: the numbers rising, each once. -/
set_option linter.unusedVariables false
set_option linter.unusedSimpArgs false
namespace Go.Proofs.YtinlolmjafjhnaaGreatDoor.rng
open Go.RowKit

theorem cellsI_set (L : List Int) (j : Nat) (x : Int) : (cellsI L).set j (.int .i64 x) = cellsI (L.set j x) := by
 unfold cellsI; rw [List.map_set]
theorem cellsI_get {L : List Int} {j : Nat} {x : Int} (h : L[j]? = some x) : (cellsI L)[j]? = some (.int .i64 x) := by
 unfold cellsI; rw [List.getElem?_map, h]; rfl
theorem rowI_cell {w : World} {B g c n : Nat} {L : List Int} (h : w.ownsRow B 3 1 (.slice (some ⟨g, 0, none⟩) n c) n (cellsI L)) {j : Nat} {x : Int} (hj : L[j]? = some x) : w.cell? ⟨g, j, none⟩ = some (.int .i64 x) := by
 have hl : L.length = n := by have := h.1; simpa [cellsI] using this
 have hlt : j < n := by have := (List.getElem?_eq_some_iff.1 hj).1; omega
 exact (h.cellAt j (by omega)).trans (cellsI_get hj)
theorem rowI_set {w : World} {B g c n : Nat} {L : List Int} (h : w.ownsRow B 3 1 (.slice (some ⟨g, 0, none⟩) n c) n (cellsI L)) (j : Nat) (x : Int) : (w.setCell ⟨g, j, none⟩ (.int .i64 x)).ownsRow B 3 1 (.slice (some ⟨g, 0, none⟩) n c) n (cellsI (L.set j x)) := by
 have := (h.stored j (.int .i64 x)).1
 rwa [cellsI_set] at this
theorem get_ltI {l : List Int} {n k : Nat} (h : l.length = n) (hk : k < n) : ∃ x, l[k]? = some x := by
 subst h; exact ⟨_, List.getElem?_eq_getElem hk⟩
theorem one_int (w : World) (x : Value) (t : TypeId) : ∀ (j : Nat) (u : Value), [x][j]? = some u → (w.alloc (Obj.cells #[x] t)).cell? ((⟨w.heap.size, 0, none⟩ : Addr).add j) = some u := by
 intro j u hj
 match j, hj with
 | 0, hj => simp at hj; subst hj; simp [Addr.add]
 | k + 1, hj => simp at hj

set_option maxRecDepth 10000 in
set_option maxHeartbeats 2000000 in
theorem sorted_any (g c B : Nat) (l : List Int) (w : World) (h : w.ownsRow B 3 1 (.slice (some ⟨g, 0, none⟩) l.length c) l.length (cellsI l)) (hB : B ≤ w.heap.size) (hn : l.length ≤ 17592186044000) :
  Calls Tryz.prog 168 #[.slice (some ⟨g, 0, none⟩) l.length c] w fun e w' => ∃ v s, e = .returned v ∧ OwnI w' B v s ∧ s.Pairwise (· < ·) ∧ (∀ y, y ∈ s ↔ y ∈ l) ∧ s.length ≤ l.length ∧ Below B w w' := by
 obtain ⟨i0, hi, hz0, hz1, hz2⟩ := info_parts infoInt
 have hgB : B ≤ g := (h.lt g rfl).1
 obtain ⟨n, hl⟩ : ∃ n, l.length = n := ⟨_, rfl⟩
 rw [hl] at h hn ⊢
 have HL : Hid (l.length = n) := hl
 clear hl
 go_enter Tryz.func168, Tryz.ntmps168
 go_wp2
 go_loopw [11] (fun i wr => ∃ (k : Nat) (L : List Int), k ≤ n ∧ i = .int .i64 k ∧ Hid (L.Perm l) ∧ Hid ((L.take k).Pairwise (· ≤ ·)) ∧ wr.ownsRow B 3 1 (.slice (some ⟨g, 0, none⟩) n c) n (cellsI L) ∧ Below B w wr) (fun i _ => n - (intOf i).toNat)
 case atStart => exact ⟨0, l, Nat.zero_le _, rfl, List.Perm.refl _, List.Pairwise.nil, h, Below.refl _ _⟩
 case round =>
  obtain ⟨k, L, hk, rfl, HP, HS, hown, hbel⟩ := hrel
  clear h
  have HLn : Hid (L.length = n) := HP.out.length_eq.trans HL.out
  by_cases hlt : k < n
  ·obtain ⟨x, hx⟩ := get_ltI HLn.out hlt
   have hcell := rowI_cell hown hx
   have HST : Hid (L = hole (L.take k) k x (L.drop (k + 1))) := hole_start hx
   have HPl : Hid ((L.take k).length = k) := by unfold Hid; rw [List.length_take, HLn.out]; omega
   have hown2 : wr.ownsRow B 3 1 (.slice (some ⟨g, 0, none⟩) n c) n (cellsI (hole (L.take k) k x (L.drop (k + 1)))) := by rw [← HST.out]; exact hown
   have HPM : Hid ((L.take k ++ x :: L.drop (k + 1)).Perm l) := by
    unfold Hid
    have := hole_perm (L.take k) k x (L.drop (k + 1))
    rw [← HST.out] at this
    exact this.symm.trans HP.out
   have HH : Hid (∀ a, (hole (L.take k) a x (L.drop (k + 1))).length = n) := fun a => by
    rw [hole_length, HPl.out, List.length_drop, HLn.out]; omega
   clear HST hown hx
   obtain ⟨P, hP⟩ : ∃ P, L.take k = P := ⟨_, rfl⟩
   obtain ⟨S, hS⟩ : ∃ S, L.drop (k + 1) = S := ⟨_, rfl⟩
   rw [hP, hS] at hown2
   rw [hP] at HPl HS
   rw [hP, hS] at HPM HH
   clear hP hS HP HLn
   go_wp2
   go_loopw [5] (fun a wr => ∃ (A : Nat) (hv : Int), a = .int .i64 A ∧ A ≤ k ∧ Hid (∀ y ∈ P.drop A, x < y) ∧ wr.ownsRow B 3 1 (.slice (some ⟨g, 0, none⟩) n c) n (cellsI (hole P A hv S)) ∧ Below B w wr) (fun a _ => (intOf a).toNat)
   case atStart => exact ⟨k, x, rfl, Nat.le_refl _, fun y hy => (by rw [List.drop_of_length_le (by rw [HPl.out]; exact Nat.le_refl _)] at hy; cases hy), hown2, hbel⟩
   case round =>
    obtain ⟨A, hv, rfl, hA, HD, hown, hbel⟩ := hrel
    clear hown2 hcell
    have hget : ∃ z, (hole P A hv S)[A]? = some z := by
     refine ⟨_, List.getElem?_eq_getElem ?_⟩
     rw [hole_length, HPl.out]; omega
    obtain ⟨z, hz⟩ := hget
    have hcA := rowI_cell hown hz
    have hfA := hown.frozenAt A
    clear hz
    have END : ∀ (hle : ∀ y ∈ P.take A, y ≤ x), Hid (∃ L', L'.Perm l ∧ (L'.take (k + 1)).Pairwise (· ≤ ·) ∧ (wr.setCell ⟨g, A, none⟩ (.int .i64 x)).ownsRow B 3 1 (.slice (some ⟨g, 0, none⟩) n c) n (cellsI L')) := fun hle => by
     refine ⟨hole P A x S, (hole_perm P A x S).trans HPM.out, ?_, ?_⟩
     ·have := hole_sorted (S := S) HS.out hle HD.out
      rw [HPl.out] at this; exact this
     ·have := rowI_set hown A x
      rw [hole_put (by rw [HPl.out]; exact hA)] at this; exact this
    cases A with
    | zero =>
     obtain ⟨L', p1, p2, p3⟩ := END (fun y hy => by simp at hy)
     have HP1 : Hid (L'.Perm l) := p1
     have HP2 : Hid ((L'.take (k + 1)).Pairwise (· ≤ ·)) := p2
     have HP3 : Hid ((wr.setCell ⟨g, 0, none⟩ (.int .i64 x)).ownsRow B 3 1 (.slice (some ⟨g, 0, none⟩) n c) n (cellsI L')) := p3
     have R2 := hbel.setCell (p := ⟨g, 0, none⟩) hgB (.int .i64 x)
     clear END p1 p2 p3 hown HD
     go_wp2
     go_roundw
     case rel => exact ⟨k + 1, L', by omega, by go_num, HP1, HP2, HP3, R2⟩
     case measure => simp [intOf]; omega
    | succ a =>
     obtain ⟨y, hy⟩ := get_ltI HPl.out (show a < k by omega)
     have hcy := rowI_cell hown ((hole_get (h := hv) (S := S) (Nat.lt_succ_self a) (by rw [HPl.out]; exact hA)).trans hy)
     by_cases hxy : x < y
     ·have R1 : (wr.setCell ⟨g, a + 1, none⟩ (.int .i64 y)).ownsRow B 3 1 (.slice (some ⟨g, 0, none⟩) n c) n (cellsI (hole P a y S)) := by
       have := rowI_set hown (a + 1) y
       rw [hole_step hy] at this; exact this
      have R2 := hbel.setCell (p := ⟨g, a + 1, none⟩) hgB (.int .i64 y)
      have R3 : Hid (∀ z ∈ P.drop a, x < z) := fun z hz => by
       obtain ⟨ha, e⟩ := List.getElem?_eq_some_iff.1 hy
       rw [List.drop_eq_getElem_cons ha, e] at hz
       rcases List.mem_cons.1 hz with rfl | hz
       ·exact hxy
       ·exact HD.out z hz
      clear END hown HD hy
      go_wp2
      go_roundw
      case rel => exact ⟨a, y, rfl, by omega, R3, R1, R2⟩
      case measure => simp [intOf]
     ·obtain ⟨L', p1, p2, p3⟩ := END (sorted_take HS.out hy (by omega))
      have HP1 : Hid (L'.Perm l) := p1
      have HP2 : Hid ((L'.take (k + 1)).Pairwise (· ≤ ·)) := p2
      have HP3 : Hid ((wr.setCell ⟨g, a + 1, none⟩ (.int .i64 x)).ownsRow B 3 1 (.slice (some ⟨g, 0, none⟩) n c) n (cellsI L')) := p3
      have R2 := hbel.setCell (p := ⟨g, a + 1, none⟩) hgB (.int .i64 x)
      clear END p1 p2 p3 hown HD hy
      go_wp2
      go_roundw
      case rel => exact ⟨k + 1, L', by omega, by go_num, HP1, HP2, HP3, R2⟩
      case measure => simp [intOf]; omega
  ·have hs1 := hbel.size
   have HSL : Hid (L.Pairwise (· ≤ ·)) := by
    have := HS.out
    rw [List.take_of_length_le (by rw [HLn.out]; omega)] at this; exact this
   have HOW : Hid (wr.ownsRow B 3 1 (.slice (some ⟨g, 0, none⟩) n c) n (cellsI L)) := hown
   have hg1 : g < wr.heap.size := (hown.lt g rfl).2
   clear HS hown
   generalize wr = w1 at *
   go_wp2
   clear hlt hk
   go_loopw [6, 47] (fun o i wr => ∃ (k : Nat) (out : List Int), k ≤ n ∧ i = .int .i64 k ∧ Hid (DdInv L out k) ∧ out.length ≤ k ∧ wr.ownsRow w1.heap.size 3 1 o out.length (cellsI out) ∧ Below w1.heap.size w1 wr) (fun _ i _ => n - (intOf i).toNat)
   case atStart => exact ⟨0, [], Nat.zero_le _, rfl, DdInv.start L, Nat.le_refl _, World.ownsRow_nil _ _ _ _, Below.refl _ _⟩
   case round =>
    obtain ⟨k, out, hk, rfl, HD, hol, hown, hbel2⟩ := hrel
    have hs2 := hbel2.size
    by_cases hlt : k < n
    ·obtain ⟨x, hx⟩ := get_ltI HLn.out hlt
     have hcx := (hbel2.cell (p := ⟨g, k, none⟩) hg1).trans (rowI_cell HOW.out hx)
     have HW : Hid (∀ j, u6.ownBlock = some j → w1.heap.size ≤ j) := fun j e => (hown.lt _ e).1
     have HX : Hid (L[k]? = some x) := hx
     clear hx
     have NEW : ∀ (hd : k = 0 ∨ ∃ z, L[k - 1]? = some z ∧ z ≠ x), Hid (DdInv L (out ++ [x]) (k + 1)) := fun hd => HD.out.new HSL.out HX.out hd
     cases k with
     | zero =>
      have HE := NEW (Or.inl rfl)
      clear NEW
      go_wp2_with (at_builtin; refine wpList_append_own _ rfl _ _ 37 rfl w1.heap.size 3 i0 (.int .i64 0) 1 8 Tryz.underlying37 hi hz0 hz1 hz2 rfl (by decide) _ _ _ rfl (hown.alloc _) ⟨wr.heap.size, 0, none⟩ 1 1 [.int .i64 x] rfl rfl ?c1 ?c2 ?c3 ?c4 ?c5 ?_)
      case c1 => exact one_int wr _ _
      case c2 => intro u hu; simp at hu; subst hu; rfl
      case c3 => unfold maxLen; omega
      case c4 => omega
      case c5 => simp; omega
      ·intro v' w2 hown2 hgrow _
       have R2 := Below.grown (hbel2.alloc hs2 (.cells #[.int .i64 x] 3)) hgrow (by simp; omega) HW.out
       have R1 : w2.ownsRow w1.heap.size 3 1 v' (out ++ [x]).length (cellsI (out ++ [x])) := by
        rw [List.length_append, show cellsI (out ++ [x]) = cellsI out ++ [.int .i64 x] by simp [cellsI]]; exact hown2
       have R3 : (out ++ [x]).length ≤ 0 + 1 := by rw [List.length_append]; show out.length + 1 ≤ 0 + 1; omega
       clear hown2 hgrow
       go_wp2
       go_roundw
       case rel => exact ⟨0 + 1, out ++ [x], by omega, by go_num, HE, R3, R1, R2⟩
       case measure => simp [intOf]; omega
     | succ a =>
      obtain ⟨z, hz⟩ := get_ltI HLn.out (show a < n by omega)
      have hcz := (hbel2.cell (p := ⟨g, a, none⟩) hg1).trans (rowI_cell HOW.out hz)
      by_cases hzx : z = x
      ·subst hzx
       have HE : Hid (DdInv L out (a + 1 + 1)) := HD.out.same HX.out (Nat.succ_pos a) (by rw [Nat.add_sub_cancel]; exact hz)
       clear NEW hz
       go_wp2
       go_roundw
       case rel => exact ⟨a + 1 + 1, out, by omega, by go_num, HE, by omega, hown, hbel2⟩
       case measure => simp [intOf]; omega
      ·have HE := NEW (Or.inr ⟨z, by rw [Nat.add_sub_cancel]; exact hz, hzx⟩)
       have hne : (z != x) = true := by simpa using hzx
       clear NEW hz hzx
       go_wp2_with (at_builtin; refine wpList_append_own _ rfl _ _ 37 rfl w1.heap.size 3 i0 (.int .i64 0) 1 8 Tryz.underlying37 hi hz0 hz1 hz2 rfl (by decide) _ _ _ rfl (hown.alloc _) ⟨wr.heap.size, 0, none⟩ 1 1 [.int .i64 x] rfl rfl ?c1 ?c2 ?c3 ?c4 ?c5 ?_)
       case c1 => exact one_int wr _ _
       case c2 => intro u hu; simp at hu; subst hu; rfl
       case c3 => unfold maxLen; omega
       case c4 => omega
       case c5 => simp; omega
       ·intro v' w2 hown2 hgrow _
        have R2 := Below.grown (hbel2.alloc hs2 (.cells #[.int .i64 x] 3)) hgrow (by simp; omega) HW.out
        have R1 : w2.ownsRow w1.heap.size 3 1 v' (out ++ [x]).length (cellsI (out ++ [x])) := by
         rw [List.length_append, show cellsI (out ++ [x]) = cellsI out ++ [.int .i64 x] by simp [cellsI]]; exact hown2
        have R3 : (out ++ [x]).length ≤ a + 1 + 1 := by rw [List.length_append]; simp; omega
        clear hown2 hgrow
        go_wp2
        go_roundw
        case rel => exact ⟨a + 1 + 1, out ++ [x], by omega, by go_num, HE, R3, R1, R2⟩
        case measure => simp [intOf]; omega
    ·go_wp2
     go_ret
     refine ⟨_, out, rfl, own_mono hown (by omega), HD.out.lt, fun y => ?_, by omega, hbel.trans (hbel2.mono (by omega))⟩
     rw [HD.out.mem, List.take_of_length_le (by rw [HLn.out]; omega)]
     exact HP.out.mem_iff
end Go.Proofs.YtinlolmjafjhnaaGreatDoor.rng
end
