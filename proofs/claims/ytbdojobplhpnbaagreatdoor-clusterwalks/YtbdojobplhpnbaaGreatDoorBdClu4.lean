/- Texts that the proof leans on, one behind the other. -/
import Derived.Test.YtbdojobplhpnbaaGreatDoorBdClu3
import Derived.OrdersHeld
import Derived.Deep.RegionHeld3

section
/- rubricatorref10.Edge, rubricatorref10.Next. -/
set_option linter.unusedVariables false
set_option linter.unusedSimpArgs false
namespace Go.Proofs.YtbdojobplhpnbaaGreatDoor.clu
open Go.RowKit Go.Maps
open Go.Proofs.YtbdojobplhpnbaaGreatDoor.lin Go.Proofs.YtbdojobplhpnbaaGreatDoor.prp

theorem al_eq (a : Int) : (a == 3 || a == 1 || a == 2) = alone a := by unfold alone; cases (a == 1) <;> cases (a == 2) <;> cases (a == 3) <;> rfl
theorem tr_eq (a : Int) : (a == 9 || a == 10 || a == 11) = trails a := rfl
theorem syl_eq (a b : Int) : inSyl a b = ((a == 4 && (b == 4 || b == 5 || b == 7 || b == 8)) || ((a == 7 || a == 5) && (b == 5 || b == 6)) || ((a == 8 || a == 6) && b == 6)) := by
  rw [Bool.eq_iff_iff]
  unfold inSyl syl
  simp only [List.any_cons, List.any_nil, Bool.or_false, Bool.or_eq_true, Bool.and_eq_true, beq_iff_eq]
  omega
theorem syl_two {a b : Int} (h : a ≠ 4) (h2 : (a == 7 || a == 5) = true) : inSyl a b = (b == 5 || b == 6) ∧ (a == 8 || a == 6) = false := by
  have h3 : (a == 8 || a == 6) = false := by
    rw [Bool.or_eq_true, beq_iff_eq, beq_iff_eq] at h2
    rw [Bool.or_eq_false_iff, beq_eq_false_iff_ne, beq_eq_false_iff_ne]
    omega
  refine ⟨?_, h3⟩
  rw [syl_eq, h2, h3, beq_eq_false_iff_ne.2 h, Bool.false_and, Bool.false_or, Bool.true_and, Bool.false_and, Bool.or_false]
theorem syl_three {a b : Int} (h : a ≠ 4) (h2 : (a == 7 || a == 5) = false) : inSyl a b = ((a == 8 || a == 6) && b == 6) := by
  rw [syl_eq, h2, beq_eq_false_iff_ne.2 h, Bool.false_and, Bool.false_and, Bool.false_or, Bool.false_or]
set_option maxHeartbeats 16000000 in
set_option maxRecDepth 1000000 in
theorem redge_in (t : Nat) (ao : Option Addr) (N cap m n : Nat) (l : List Int) (w : World) (h : RTabs w t) (hv : Txt w ao N cap l) (hn : n = m + 1) (hN : n < N) :
    Calls Tryz.prog 13 #[.pointer (some ⟨t, 0, none⟩), .slice ao N cap, .int .i64 (n : Int)] w fun e w' => e = .returned (.bool (parted l n)) ∧ Below w.heap.size w w' := by
  obtain ⟨hl, hat⟩ := iv_cells hv.iv
  obtain ⟨x, b, o, rfl, cx, hx⟩ := hat m (by omega)
  obtain ⟨y, b1, o1, e', cy, hy⟩ := hat n hN
  injection e' with e'
  injection e' with e1 e2
  subst e1 e2
  have hxo := hv.ok x (List.mem_of_getElem? hx)
  have hyo := hv.ok y (List.mem_of_getElem? hy)
  obtain ⟨R, hR⟩ : ∃ R, parted l n = R := ⟨_, rfl⟩
  obtain ⟨P, hP⟩ : ∃ P, endsPic (back l m) = P := ⟨_, rfl⟩
  obtain ⟨F, hF⟩ : ∃ F, flagsN (back l n) = F := ⟨_, rfl⟩
  have HR : Hid (R = ruleB (kd x) (kd y) P F) := by unfold Hid; rw [← hR, ← hP, ← hF]; exact parted_at hn hx hy
  have HF0 : Hid (kd x ≠ 14 → F = 0) := fun hne => by rw [← hF, hn, back_succ hx, flag_cons, if_neg hne]
  have HCL : Hid (∀ r W, okI r → Below w.heap.size w W → Calls Tryz.prog 39 #[.pointer (some ⟨t, 0, none⟩), .int .i64 r] W fun e w' => (∃ A, e = .returned (.string A) ∧ IsK A (kd r)) ∧ Below W.heap.size W w') := fun r W hr hb => (rcluster_t t r W (h.below hb) hr).mono (fun e w' hh => ⟨⟨_, hh.1, isK_cl r⟩, hh.2⟩)
  have HPI : Hid (∀ W, Below w.heap.size w W → Calls Tryz.prog 41 #[.pointer (some ⟨t, 0, none⟩), .slice (some ⟨b, o, none⟩) N cap, .int .i64 (n : Int)] W fun e w' => e = .returned (.bool (kd x == 10 && P)) ∧ Below W.heap.size W w') := fun W hb => by
    have q := rpicture_t t (some ⟨b, o, none⟩) N cap m n l x W (h.below hb) (hv.below hb) hn (by omega) hx
    rw [hP] at q
    exact q
  have HFI : Hid (∀ W, Below w.heap.size w W → Calls Tryz.prog 42 #[.pointer (some ⟨t, 0, none⟩), .slice (some ⟨b, o, none⟩) N cap, .int .i64 (n : Int)] W fun e w' => e = .returned (.int .i64 (F : Int)) ∧ Below W.heap.size W w') := fun W hb => by
    have q := rflags_t t (some ⟨b, o, none⟩) N cap n l W (h.below hb) (hv.below hb) (by omega)
    rw [hF] at q
    exact q
  have HC1 : Hid (∀ W, Below w.heap.size w W → Calls Tryz.prog 39 #[.pointer (some ⟨t, 0, none⟩), .int .i64 x] W fun e w' => (∃ A, e = .returned (.string A) ∧ IsK A (kd x)) ∧ Below W.heap.size W w') := fun W hb => HCL.out x W hxo hb
  have HC2 : Hid (∀ W, Below w.heap.size w W → Calls Tryz.prog 39 #[.pointer (some ⟨t, 0, none⟩), .int .i64 y] W fun e w' => (∃ A, e = .returned (.string A) ∧ IsK A (kd y)) ∧ Below W.heap.size W w') := fun W hb => HCL.out y W hyo hb
  have hlen := hv.len
  have w1 : IntKind.i64.wrap ((n : Int) - 1) = (m : Int) := by rw [IntKind.wrap_i64]; omega
  have c1 : (0 : Int) ≤ (m : Int) := by omega
  have c2 : (m : Int) < (N : Int) := by omega
  have c3 : ¬ (n : Int) < 0 := by omega
  have c4 : (n : Int) < (N : Int) := by omega
  have c5 : ¬ (N : Int) < (n : Int) := by omega
  have c6 : ((N : Int) == 0) = false := by rw [beq_eq_false_iff_ne]; omega
  have c7 : ((n : Int) == 0) = false := by rw [beq_eq_false_iff_ne]; omega
  have c8 : ((n : Int) == (N : Int)) = false := by rw [beq_eq_false_iff_ne]; omega
  rw [hR]
  clear h hv hat hl hR hx hy hP hF hn hN HCL hxo hyo
  generalize kd x = a at *
  generalize kd y = b' at *
  go_enter Tryz.func13, Tryz.ntmps13
  go_wp2
  refine wp_region_noPanic ?_
  refine wp_region_held_drew (S := fun w' => w'.cell? ⟨b, o + m, none⟩ = some (.int .i64 x) ∧ w'.cell? ⟨b, o + n, none⟩ = some (.int .i64 y)) (by kernel_rfl) ⟨cx, cy⟩ (fun hHeld => ?_)
  have B1 : Below w.heap.size w w.drew := (Below.refl _ w).drew
  generalize w.drew = w1 at *
  refine wpAnyH_take (i := 0) (v := ?_) rfl (by kernel_rfl) (by kernel_rfl) (by kernel_rfl) (fun _ _ _ h => h) (Or.inl ⟨by rfl, ?_⟩) (by assumption) ?_
  rotate_left
  · (intro w' hSw; (try dsimp only at hSw); go_simp; try with_reducible rfl)
  try simp only [Act.put, List.setIfInBounds_toArray, List.set_cons_zero, List.set_cons_succ]
  refine wpAnyH_take (i := 1) (v := ?_) rfl (by kernel_rfl) (by kernel_rfl) (by kernel_rfl) (fun _ _ _ h => h) (Or.inl ⟨by rfl, ?_⟩) (by assumption) ?_
  rotate_left
  · (intro w' hSw; (try dsimp only at hSw); go_simp; try with_reducible rfl)
  try simp only [Act.put, List.setIfInBounds_toArray, List.set_cons_zero, List.set_cons_succ]
  refine wpAnyH_take (i := 2) (v := ?_) rfl (by kernel_rfl) (by kernel_rfl) (by kernel_rfl) (fun _ _ _ h => h) (Or.inl ⟨by rfl, ?_⟩) (by assumption) ?_
  rotate_left
  · (intro w' hSw; (try dsimp only at hSw); go_simp; try with_reducible rfl)
  try simp only [Act.put, List.setIfInBounds_toArray, List.set_cons_zero, List.set_cons_succ]
  refine wpAnyH_take (i := 3) (v := ?_) rfl (by kernel_rfl) (by kernel_rfl) (by kernel_rfl) (fun _ _ _ h => h) (Or.inl ⟨by rfl, ?_⟩) (by assumption) ?_
  rotate_left
  · (intro w' hSw; (try dsimp only at hSw); go_simp; try with_reducible rfl)
  try simp only [Act.put, List.setIfInBounds_toArray, List.set_cons_zero, List.set_cons_succ]
  refine wpAnyH_take (i := 4) (v := ?_) rfl (by kernel_rfl) (by kernel_rfl) (by kernel_rfl) (fun _ _ _ h => h) (Or.inl ⟨by rfl, ?_⟩) (by assumption) ?_
  rotate_left
  · (intro w' hSw; (try dsimp only at hSw); go_simp; try with_reducible rfl)
  try simp only [Act.put, List.setIfInBounds_toArray, List.set_cons_zero, List.set_cons_succ]
  refine wpAnyH_take (i := 5) (v := ?_) rfl (by kernel_rfl) (by kernel_rfl) (by kernel_rfl) (fun _ _ _ h => h) (Or.inl ⟨by rfl, ?_⟩) (by assumption) ?_
  rotate_left
  · (intro w' hSw; (try dsimp only at hSw); go_simp; try with_reducible rfl)
  try simp only [Act.put, List.setIfInBounds_toArray, List.set_cons_zero, List.set_cons_succ]
  refine wpAnyH_take (i := 7) (v := ?_) rfl (by kernel_rfl) (by kernel_rfl) (by kernel_rfl) (fun _ _ _ h => h) (Or.inl ⟨by rfl, ?_⟩) (by assumption) ?_
  rotate_left
  · (intro w' hSw; (try dsimp only at hSw); go_simp; try with_reducible rfl)
  try simp only [Act.put, List.setIfInBounds_toArray, List.set_cons_zero, List.set_cons_succ]
  refine wpAnyH_take (i := 8) (v := ?_) rfl (by kernel_rfl) (by kernel_rfl) (by kernel_rfl) (fun _ _ _ h => h) (Or.inl ⟨by rfl, ?_⟩) (by assumption) ?_
  rotate_left
  · (intro w' hSw; (try dsimp only at hSw); go_simp; try with_reducible rfl)
  try simp only [Act.put, List.setIfInBounds_toArray, List.set_cons_zero, List.set_cons_succ]
  refine wpAnyH_take (i := 9) (v := ?_) rfl (by kernel_rfl) (by kernel_rfl) (by kernel_rfl) (fun _ _ _ h => h) (Or.inl ⟨by rfl, ?_⟩) (by assumption) ?_
  rotate_left
  · (intro w' hSw; (try dsimp only at hSw); go_simp; try with_reducible rfl)
  try simp only [Act.put, List.setIfInBounds_toArray, List.set_cons_zero, List.set_cons_succ]
  refine wpAnyH_take (i := 10) (v := ?_) rfl (by kernel_rfl) (by kernel_rfl) (by kernel_rfl) (fun _ _ _ h => h) (Or.inl ⟨by rfl, ?_⟩) (by assumption) ?_
  rotate_left
  · (intro w' hSw; (try dsimp only at hSw); go_simp; try with_reducible rfl)
  try simp only [Act.put, List.setIfInBounds_toArray, List.set_cons_zero, List.set_cons_succ]
  refine wpAnyH_take (i := 11) (v := ?_) rfl (by kernel_rfl) (by kernel_rfl) (by kernel_rfl) (fun _ _ _ h => h) (Or.inl ⟨by rfl, ?_⟩) (by assumption) ?_
  rotate_left
  · (intro w' hSw; (try dsimp only at hSw); go_simp; try with_reducible rfl)
  try simp only [Act.put, List.setIfInBounds_toArray, List.set_cons_zero, List.set_cons_succ]
  refine wpAnyH_ready (rs := [6]) (by kernel_rfl) (by simp) ?_
  refine AllReadyH.cons rfl (fun K hK => ?_) AllReadyH.nil
  go_simp
  refine (HC1.out _ B1).mono ?_
  rintro e w2 ⟨⟨A, rfl, hA⟩, bq⟩
  have B2 : Below w.heap.size w w2 := B1.trans (bq.mono B1.size)
  clear bq
  refine hK.out _ _ ⟨cell_below B2 cx, cell_below B2 cy⟩ (fun hHeld2 => ?_)
  clear hK K hHeld
  have hHeld := hHeld2
  clear hHeld2
  try simp only [Act.put, List.setIfInBounds_toArray, List.set_cons_zero, List.set_cons_succ]
  refine wpAnyH_ready (rs := [12]) (by kernel_rfl) (by simp) ?_
  refine AllReadyH.cons rfl (fun K hK => ?_) AllReadyH.nil
  go_simp
  refine (HC2.out _ B2).mono ?_
  rintro e w3 ⟨⟨Bs, rfl, hB⟩, bq⟩
  have B3 : Below w.heap.size w w3 := B2.trans (bq.mono B2.size)
  clear bq
  refine hK.out _ _ ⟨cell_below B3 cx, cell_below B3 cy⟩ (fun hHeld2 => ?_)
  clear hK K hHeld
  have hHeld := hHeld2
  clear hHeld2
  try simp only [Act.put, List.setIfInBounds_toArray, List.set_cons_zero, List.set_cons_succ]
  refine wpAnyH_take (i := 13) (v := ?_) rfl (by kernel_rfl) (by kernel_rfl) (by kernel_rfl) (fun _ _ _ h => h) (Or.inl ⟨by rfl, ?_⟩) (by assumption) ?_
  rotate_left
  · (intro w' hSw; (try dsimp only at hSw); go_simp; try with_reducible rfl)
  try simp only [Act.put, List.setIfInBounds_toArray, List.set_cons_zero, List.set_cons_succ]
  refine wpAnyH_take (i := 14) (v := ?_) rfl (by kernel_rfl) (by kernel_rfl) (by kernel_rfl) (fun _ _ _ h => h) (Or.inl ⟨by rfl, ?_⟩) (by assumption) ?_
  rotate_left
  · (intro w' hSw; (try dsimp only at hSw); go_simp; try with_reducible rfl)
  try simp only [Act.put, List.setIfInBounds_toArray, List.set_cons_zero, List.set_cons_succ]
  refine wpAnyH_done (by kernel_rfl) ?_ _
  refine NoPanic.normal ?_
  have HKA : Hid (IsK A a) := hA
  have HKB : Hid (IsK Bs b') := hB
  have HB3 : Hid (Below w.heap.size w w3) := B3
  clear hA hB B1 B2 B3 HC1 HC2 hHeld cx cy
  by_cases ha1 : a = 1
  · have hq1 : (a == 1) = true := by rw [ha1]; rfl
    have q1 : (A.toList == [67, 82]) = true := by rw [HKA.out.eq 1 (by decide) (by decide) [67, 82] rfl]; exact hq1
    by_cases hb2 : b' = 2
    · have HR2 : Hid (R = false) := HR.out.trans (rule_cr ha1 hb2)
      have q2 : (Bs.toList == [76, 70]) = true := by rw [HKB.out.eq 2 (by decide) (by decide) [76, 70] rfl]; exact by rw [hb2]; rfl
      clear ha1 hb2 hq1
      have hR : R = false := HR2.out
      clear HR
      subst hR
      go_wp2
      try rw [Exit.noGoto_ret]
      go_ret
      exact ⟨rfl, HB3.out⟩
    · have HR2 : Hid (R = true) := HR.out.trans (rule_alone (fun h => hb2 h.2) (by rw [ha1]; rfl))
      have q2 : (Bs.toList == [76, 70]) = false := by rw [HKB.out.eq 2 (by decide) (by decide) [76, 70] rfl]; exact beq_eq_false_iff_ne.2 hb2
      have ea : alone a = true := by rw [ha1]; rfl
      clear ha1 hb2 hq1
      have HB4 : Hid (Below w.heap.size w (w3.alloc (.cells #[.string ⟨#[67, 111, 110, 116, 114, 111, 108]⟩, .string ⟨#[67, 82]⟩, .string ⟨#[76, 70]⟩] 9))) := HB3.out.alloc HB3.out.size _
      have C := one_al A a w3 HKA.out
      rw [al_eq, ea] at C
      go_wp2_with fail
      refine C.mono ?_
      rintro e wz ⟨rfl, hw⟩
      rw [hw]
      clear C hw wz HB3
      generalize w3.alloc (.cells #[.string ⟨#[67, 111, 110, 116, 114, 111, 108]⟩, .string ⟨#[67, 82]⟩, .string ⟨#[76, 70]⟩] 9) = w4 at *
      have hR : R = true := HR2.out
      clear HR
      subst hR
      go_wp2
      try rw [Exit.noGoto_ret]
      go_ret
      exact ⟨rfl, HB4.out⟩
  have q1 : (A.toList == [67, 82]) = false := by rw [HKA.out.eq 1 (by decide) (by decide) [67, 82] rfl]; exact beq_eq_false_iff_ne.2 ha1
  have HA1 : Hid (a ≠ 1) := ha1
  clear ha1
  cases ea : alone a with
  | true =>
    have HR2 : Hid (R = true) := HR.out.trans (rule_alone (fun h => HA1.out h.1) (by rw [ea]; rfl))
    have HB4 : Hid (Below w.heap.size w (w3.alloc (.cells #[.string ⟨#[67, 111, 110, 116, 114, 111, 108]⟩, .string ⟨#[67, 82]⟩, .string ⟨#[76, 70]⟩] 9))) := HB3.out.alloc HB3.out.size _
    have C := one_al A a w3 HKA.out
    rw [al_eq, ea] at C
    go_wp2_with fail
    refine C.mono ?_
    rintro e wz ⟨rfl, hw⟩
    rw [hw]
    clear C hw wz HB3
    generalize w3.alloc (.cells #[.string ⟨#[67, 111, 110, 116, 114, 111, 108]⟩, .string ⟨#[67, 82]⟩, .string ⟨#[76, 70]⟩] 9) = w4 at *
    have hR : R = true := HR2.out
    clear HR
    subst hR
    go_wp2
    try rw [Exit.noGoto_ret]
    go_ret
    exact ⟨rfl, HB4.out⟩
  | false =>
    have HB4 : Hid (Below w.heap.size w (w3.alloc (.cells #[.string ⟨#[67, 111, 110, 116, 114, 111, 108]⟩, .string ⟨#[67, 82]⟩, .string ⟨#[76, 70]⟩] 9))) := HB3.out.alloc HB3.out.size _
    have C := one_al A a w3 HKA.out
    rw [al_eq, ea] at C
    go_wp2_with fail
    refine C.mono ?_
    rintro e wz ⟨rfl, hw⟩
    rw [hw]
    clear C hw wz HB3
    generalize w3.alloc (.cells #[.string ⟨#[67, 111, 110, 116, 114, 111, 108]⟩, .string ⟨#[67, 82]⟩, .string ⟨#[76, 70]⟩] 9) = w4 at *
    have HEA : Hid (alone a = false) := ea
    clear ea
    cases eb : alone b' with
    | true =>
      have HR2 : Hid (R = true) := HR.out.trans (rule_alone (fun h => HA1.out h.1) (by rw [eb, Bool.or_true]))
      have HB5 : Hid (Below w.heap.size w (w4.alloc (.cells #[.string ⟨#[67, 111, 110, 116, 114, 111, 108]⟩, .string ⟨#[67, 82]⟩, .string ⟨#[76, 70]⟩] 9))) := HB4.out.alloc HB4.out.size _
      have C := one_al Bs b' w4 HKB.out
      rw [al_eq, eb] at C
      go_wp2_with fail
      refine C.mono ?_
      rintro e wz ⟨rfl, hw⟩
      rw [hw]
      clear C hw wz HB4
      generalize w4.alloc (.cells #[.string ⟨#[67, 111, 110, 116, 114, 111, 108]⟩, .string ⟨#[67, 82]⟩, .string ⟨#[76, 70]⟩] 9) = w5 at *
      have hR : R = true := HR2.out
      clear HR
      subst hR
      go_wp2
      try rw [Exit.noGoto_ret]
      go_ret
      exact ⟨rfl, HB5.out⟩
    | false =>
      have HB5 : Hid (Below w.heap.size w (w4.alloc (.cells #[.string ⟨#[67, 111, 110, 116, 114, 111, 108]⟩, .string ⟨#[67, 82]⟩, .string ⟨#[76, 70]⟩] 9))) := HB4.out.alloc HB4.out.size _
      have C := one_al Bs b' w4 HKB.out
      rw [al_eq, eb] at C
      go_wp2_with fail
      refine C.mono ?_
      rintro e wz ⟨rfl, hw⟩
      rw [hw]
      clear C hw wz HB4
      generalize w4.alloc (.cells #[.string ⟨#[67, 111, 110, 116, 114, 111, 108]⟩, .string ⟨#[67, 82]⟩, .string ⟨#[76, 70]⟩] 9) = w5 at *
      have HEB : Hid (alone b' = false) := eb
      clear eb HA1
      by_cases h4 : a = 4
      · have HS : Hid (inSyl a b' = (b' == 4 || b' == 5 || b' == 7 || b' == 8)) := by unfold Hid; rw [syl_eq, h4]; simp
        have q4 : (A.toList == [76]) = true := by rw [HKA.out.eq 4 (by decide) (by decide) [76] rfl]; exact by rw [h4]; rfl
        have e2 : (a == 7 || a == 5) = false := by rw [h4]; rfl
        have e3 : (a == 8 || a == 6) = false := by rw [h4]; rfl
        clear h4
        cases el : (b' == 4 || b' == 5 || b' == 7 || b' == 8) with
        | true =>
          have HR2 : Hid (R = false) := HR.out.trans (rule_with HEA.out HEB.out (by rw [HS.out, el]; rfl))
          have HB6 : Hid (Below w.heap.size w (w5.alloc (.cells #[.string ⟨#[76]⟩, .string ⟨#[86]⟩, .string ⟨#[76, 86]⟩, .string ⟨#[76, 86, 84]⟩] 9))) := HB5.out.alloc HB5.out.size _
          have C := one_lv Bs b' w5 HKB.out
          rw [el] at C
          go_wp2_with fail
          refine C.mono ?_
          rintro e wz ⟨rfl, hw⟩
          rw [hw]
          clear C hw wz HB5
          generalize w5.alloc (.cells #[.string ⟨#[76]⟩, .string ⟨#[86]⟩, .string ⟨#[76, 86]⟩, .string ⟨#[76, 86, 84]⟩] 9) = w6 at *
          have hR : R = false := HR2.out
          clear HR
          subst hR
          go_wp2
          try rw [Exit.noGoto_ret]
          go_ret
          exact ⟨rfl, HB6.out⟩
        | false =>
          have HB6 : Hid (Below w.heap.size w (w5.alloc (.cells #[.string ⟨#[76]⟩, .string ⟨#[86]⟩, .string ⟨#[76, 86]⟩, .string ⟨#[76, 86, 84]⟩] 9))) := HB5.out.alloc HB5.out.size _
          have C := one_lv Bs b' w5 HKB.out
          rw [el] at C
          go_wp2_with fail
          refine C.mono ?_
          rintro e wz ⟨rfl, hw⟩
          rw [hw]
          clear C hw wz HB5
          generalize w5.alloc (.cells #[.string ⟨#[76]⟩, .string ⟨#[86]⟩, .string ⟨#[76, 86]⟩, .string ⟨#[76, 86, 84]⟩] 9) = w6 at *
          have HES : Hid (inSyl a b' = false) := HS.out.trans el
          clear HS el
          have HB7 : Hid (Below w.heap.size w (w6.alloc (.cells #[.string ⟨#[76, 86]⟩, .string ⟨#[86]⟩] 9))) := HB6.out.alloc HB6.out.size _
          have C := one_a2 A a w6 HKA.out
          rw [e2] at C
          go_wp2_with fail
          refine C.mono ?_
          rintro e wz ⟨rfl, hw⟩
          rw [hw]
          clear C hw wz HB6
          generalize w6.alloc (.cells #[.string ⟨#[76, 86]⟩, .string ⟨#[86]⟩] 9) = w7 at *
          have HB8 : Hid (Below w.heap.size w (w7.alloc (.cells #[.string ⟨#[76, 86, 84]⟩, .string ⟨#[84]⟩] 9))) := HB7.out.alloc HB7.out.size _
          have C := one_a3 A a w7 HKA.out
          rw [e3] at C
          go_wp2_with fail
          refine C.mono ?_
          rintro e wz ⟨rfl, hw⟩
          rw [hw]
          clear C hw wz HB7
          generalize w7.alloc (.cells #[.string ⟨#[76, 86, 84]⟩, .string ⟨#[84]⟩] 9) = w8 at *
          clear e2 e3
          cases et : trails b' with
          | true =>
            have HR2 : Hid (R = false) := HR.out.trans (rule_with HEA.out HEB.out (by rw [et, Bool.or_true]; rfl))
            have HB9 : Hid (Below w.heap.size w (w8.alloc (.cells #[.string ⟨#[69, 120, 116, 101, 110, 100]⟩, .string ⟨#[90, 87, 74]⟩, .string ⟨#[83, 112, 97, 99, 105, 110, 103, 77, 97, 114, 107]⟩] 9))) := HB8.out.alloc HB8.out.size _
            have C := one_tr Bs b' w8 HKB.out
            rw [tr_eq, et] at C
            go_wp2_with fail
            refine C.mono ?_
            rintro e wz ⟨rfl, hw⟩
            rw [hw]
            clear C hw wz HB8
            generalize w8.alloc (.cells #[.string ⟨#[69, 120, 116, 101, 110, 100]⟩, .string ⟨#[90, 87, 74]⟩, .string ⟨#[83, 112, 97, 99, 105, 110, 103, 77, 97, 114, 107]⟩] 9) = w9 at *
            have hR : R = false := HR2.out
            clear HR
            subst hR
            go_wp2
            try rw [Exit.noGoto_ret]
            go_ret
            exact ⟨rfl, HB9.out⟩
          | false =>
            have HB9 : Hid (Below w.heap.size w (w8.alloc (.cells #[.string ⟨#[69, 120, 116, 101, 110, 100]⟩, .string ⟨#[90, 87, 74]⟩, .string ⟨#[83, 112, 97, 99, 105, 110, 103, 77, 97, 114, 107]⟩] 9))) := HB8.out.alloc HB8.out.size _
            have C := one_tr Bs b' w8 HKB.out
            rw [tr_eq, et] at C
            go_wp2_with fail
            refine C.mono ?_
            rintro e wz ⟨rfl, hw⟩
            rw [hw]
            clear C hw wz HB8
            generalize w8.alloc (.cells #[.string ⟨#[69, 120, 116, 101, 110, 100]⟩, .string ⟨#[90, 87, 74]⟩, .string ⟨#[83, 112, 97, 99, 105, 110, 103, 77, 97, 114, 107]⟩] 9) = w9 at *
            by_cases h12 : a = 12
            · have HR2 : Hid (R = false) := HR.out.trans (rule_with HEA.out HEB.out (by rw [h12]; exact Bool.or_true _))
              have q12 : (A.toList == [80, 114, 101, 112, 101, 110, 100]) = true := by rw [HKA.out.eq 12 (by decide) (by decide) [80, 114, 101, 112, 101, 110, 100] rfl]; exact by rw [h12]; rfl
              clear h12
              have hR : R = false := HR2.out
              clear HR
              subst hR
              go_wp2
              try rw [Exit.noGoto_ret]
              go_ret
              exact ⟨rfl, HB9.out⟩
            have q12 : (A.toList == [80, 114, 101, 112, 101, 110, 100]) = false := by rw [HKA.out.eq 12 (by decide) (by decide) [80, 114, 101, 112, 101, 110, 100] rfl]; exact beq_eq_false_iff_ne.2 h12
            have HRR : Hid (R = if a = 10 ∧ b' = 13 then !P else if a = 14 ∧ b' = 14 then F % 2 == 0 else true) := HR.out.trans (rule_rest HEA.out HEB.out HES.out et h12)
            clear h12 et HES
            by_cases h13 : b' = 13
            · have HPI2 := HPI.out w9 HB9.out
              have qb13 : (Bs.toList == [80, 105, 99, 116, 111, 103, 114, 97, 112, 104, 105, 99]) = true := by rw [HKB.out.eq 13 (by decide) (by decide) [80, 105, 99, 116, 111, 103, 114, 97, 112, 104, 105, 99] rfl]; exact by rw [h13]; rfl
              have qb14 : (Bs.toList == [70, 108, 97, 103]) = false := by rw [HKB.out.eq 14 (by decide) (by decide) [70, 108, 97, 103] rfl]; exact by rw [h13]; rfl
              cases hap : (a == 10 && P) with
              | true =>
                have HR3 : Hid (R = false) := by
                  rw [Bool.and_eq_true, beq_iff_eq] at hap
                  unfold Hid
                  rw [HRR.out, if_pos ⟨hap.1, h13⟩, hap.2]
                  rfl
                rw [hap] at HPI2
                clear hap h13 HRR
                go_wp2_with fail
                refine HPI2.mono ?_
                rintro e w10 ⟨rfl, bz⟩
                have HB10 : Hid (Below w.heap.size w w10) := HB9.out.trans (bz.mono HB9.out.size)
                clear HPI2 bz
                have hR : R = false := HR3.out
                clear HR
                subst hR
                go_wp2
                try rw [Exit.noGoto_ret]
                go_ret
                exact ⟨rfl, HB10.out⟩
              | false =>
                have HR3 : Hid (R = true) := by
                  unfold Hid
                  rw [HRR.out]
                  by_cases h10 : a = 10
                  · rw [if_pos ⟨h10, h13⟩]
                    rw [h10] at hap
                    have : P = false := by simpa using hap
                    rw [this]
                    rfl
                  · rw [if_neg (fun h => h10 h.1), if_neg (fun h => by rw [h13] at h; exact absurd h.2 (by decide))]
                rw [hap] at HPI2
                clear hap h13 HRR
                go_wp2_with fail
                refine HPI2.mono ?_
                rintro e w10 ⟨rfl, bz⟩
                have HB10 : Hid (Below w.heap.size w w10) := HB9.out.trans (bz.mono HB9.out.size)
                clear HPI2 bz
                have hR : R = true := HR3.out
                clear HR
                subst hR
                go_wp2
                try rw [Exit.noGoto_ret]
                go_ret
                exact ⟨rfl, HB10.out⟩
            have qb13 : (Bs.toList == [80, 105, 99, 116, 111, 103, 114, 97, 112, 104, 105, 99]) = false := by rw [HKB.out.eq 13 (by decide) (by decide) [80, 105, 99, 116, 111, 103, 114, 97, 112, 104, 105, 99] rfl]; exact beq_eq_false_iff_ne.2 h13
            by_cases h14 : b' = 14
            · have HFI2 := HFI.out w9 HB9.out
              have qb14 : (Bs.toList == [70, 108, 97, 103]) = true := by rw [HKB.out.eq 14 (by decide) (by decide) [70, 108, 97, 103] rfl]; exact by rw [h14]; rfl
              have tm : Int.tmod (F : Int) 2 = (F : Int) % 2 := Int.tmod_eq_emod_of_nonneg (by omega)
              have wy : IntKind.i64.wrap ((F : Int) % 2) = (F : Int) % 2 := by rw [IntKind.wrap_i64]; omega
              have HR4 : Hid (R = !((F : Int) % 2 == 1)) := by
                unfold Hid
                rw [HRR.out, if_neg (fun h => h13 h.2)]
                by_cases ha14 : a = 14
                · rw [if_pos ⟨ha14, h14⟩, Bool.eq_iff_iff, beq_iff_eq, Bool.not_eq_true', beq_eq_false_iff_ne]; omega
                · rw [if_neg (fun h => ha14 h.1), HF0.out ha14]; rfl
              clear h13 h14 HRR
              go_wp2_with fail
              refine HFI2.mono ?_
              rintro e w10 ⟨rfl, bz⟩
              have HB10 : Hid (Below w.heap.size w w10) := HB9.out.trans (bz.mono HB9.out.size)
              clear HFI2 bz
              cases hf : ((F : Int) % 2 == 1) with
              | true =>
                have hR : R = false := by rw [HR4.out, hf]; rfl
                clear HR HR4
                subst hR
                go_wp2
                try rw [Exit.noGoto_ret]
                go_ret
                exact ⟨rfl, HB10.out⟩
              | false =>
                have hR : R = true := by rw [HR4.out, hf]; rfl
                clear HR HR4
                subst hR
                go_wp2
                try rw [Exit.noGoto_ret]
                go_ret
                exact ⟨rfl, HB10.out⟩
            have qb14 : (Bs.toList == [70, 108, 97, 103]) = false := by rw [HKB.out.eq 14 (by decide) (by decide) [70, 108, 97, 103] rfl]; exact beq_eq_false_iff_ne.2 h14
            have HR3 : Hid (R = true) := HRR.out.trans ((if_neg (fun h => h13 h.2)).trans (if_neg (fun h => h14 h.2)))
            clear h13 h14 HRR
            have hR : R = true := HR3.out
            clear HR
            subst hR
            go_wp2
            try rw [Exit.noGoto_ret]
            go_ret
            exact ⟨rfl, HB9.out⟩
      have q4 : (A.toList == [76]) = false := by rw [HKA.out.eq 4 (by decide) (by decide) [76] rfl]; exact beq_eq_false_iff_ne.2 h4
      cases e2 : (a == 7 || a == 5) with
      | true =>
        have HS : Hid (inSyl a b' = (b' == 5 || b' == 6) ∧ (a == 8 || a == 6) = false) := syl_two h4 e2
        clear h4
        have HB6 : Hid (Below w.heap.size w (w5.alloc (.cells #[.string ⟨#[76, 86]⟩, .string ⟨#[86]⟩] 9))) := HB5.out.alloc HB5.out.size _
        have C := one_a2 A a w5 HKA.out
        rw [e2] at C
        go_wp2_with fail
        refine C.mono ?_
        rintro e wz ⟨rfl, hw⟩
        rw [hw]
        clear C hw wz HB5
        generalize w5.alloc (.cells #[.string ⟨#[76, 86]⟩, .string ⟨#[86]⟩] 9) = w6 at *
        cases el : (b' == 5 || b' == 6) with
        | true =>
          have HR2 : Hid (R = false) := HR.out.trans (rule_with HEA.out HEB.out (by rw [HS.out.1, el]; rfl))
          have HB7 : Hid (Below w.heap.size w (w6.alloc (.cells #[.string ⟨#[86]⟩, .string ⟨#[84]⟩] 9))) := HB6.out.alloc HB6.out.size _
          have C := one_b2 Bs b' w6 HKB.out
          rw [el] at C
          go_wp2_with fail
          refine C.mono ?_
          rintro e wz ⟨rfl, hw⟩
          rw [hw]
          clear C hw wz HB6
          generalize w6.alloc (.cells #[.string ⟨#[86]⟩, .string ⟨#[84]⟩] 9) = w7 at *
          have hR : R = false := HR2.out
          clear HR
          subst hR
          go_wp2
          try rw [Exit.noGoto_ret]
          go_ret
          exact ⟨rfl, HB7.out⟩
        | false =>
          have HB7 : Hid (Below w.heap.size w (w6.alloc (.cells #[.string ⟨#[86]⟩, .string ⟨#[84]⟩] 9))) := HB6.out.alloc HB6.out.size _
          have C := one_b2 Bs b' w6 HKB.out
          rw [el] at C
          go_wp2_with fail
          refine C.mono ?_
          rintro e wz ⟨rfl, hw⟩
          rw [hw]
          clear C hw wz HB6
          generalize w6.alloc (.cells #[.string ⟨#[86]⟩, .string ⟨#[84]⟩] 9) = w7 at *
          have HES : Hid (inSyl a b' = false) := HS.out.1.trans el
          have e3 := HS.out.2
          clear HS el
          have HB8 : Hid (Below w.heap.size w (w7.alloc (.cells #[.string ⟨#[76, 86, 84]⟩, .string ⟨#[84]⟩] 9))) := HB7.out.alloc HB7.out.size _
          have C := one_a3 A a w7 HKA.out
          rw [e3] at C
          go_wp2_with fail
          refine C.mono ?_
          rintro e wz ⟨rfl, hw⟩
          rw [hw]
          clear C hw wz HB7
          generalize w7.alloc (.cells #[.string ⟨#[76, 86, 84]⟩, .string ⟨#[84]⟩] 9) = w8 at *
          clear e3 e2
          cases et : trails b' with
          | true =>
            have HR2 : Hid (R = false) := HR.out.trans (rule_with HEA.out HEB.out (by rw [et, Bool.or_true]; rfl))
            have HB9 : Hid (Below w.heap.size w (w8.alloc (.cells #[.string ⟨#[69, 120, 116, 101, 110, 100]⟩, .string ⟨#[90, 87, 74]⟩, .string ⟨#[83, 112, 97, 99, 105, 110, 103, 77, 97, 114, 107]⟩] 9))) := HB8.out.alloc HB8.out.size _
            have C := one_tr Bs b' w8 HKB.out
            rw [tr_eq, et] at C
            go_wp2_with fail
            refine C.mono ?_
            rintro e wz ⟨rfl, hw⟩
            rw [hw]
            clear C hw wz HB8
            generalize w8.alloc (.cells #[.string ⟨#[69, 120, 116, 101, 110, 100]⟩, .string ⟨#[90, 87, 74]⟩, .string ⟨#[83, 112, 97, 99, 105, 110, 103, 77, 97, 114, 107]⟩] 9) = w9 at *
            have hR : R = false := HR2.out
            clear HR
            subst hR
            go_wp2
            try rw [Exit.noGoto_ret]
            go_ret
            exact ⟨rfl, HB9.out⟩
          | false =>
            have HB9 : Hid (Below w.heap.size w (w8.alloc (.cells #[.string ⟨#[69, 120, 116, 101, 110, 100]⟩, .string ⟨#[90, 87, 74]⟩, .string ⟨#[83, 112, 97, 99, 105, 110, 103, 77, 97, 114, 107]⟩] 9))) := HB8.out.alloc HB8.out.size _
            have C := one_tr Bs b' w8 HKB.out
            rw [tr_eq, et] at C
            go_wp2_with fail
            refine C.mono ?_
            rintro e wz ⟨rfl, hw⟩
            rw [hw]
            clear C hw wz HB8
            generalize w8.alloc (.cells #[.string ⟨#[69, 120, 116, 101, 110, 100]⟩, .string ⟨#[90, 87, 74]⟩, .string ⟨#[83, 112, 97, 99, 105, 110, 103, 77, 97, 114, 107]⟩] 9) = w9 at *
            by_cases h12 : a = 12
            · have HR2 : Hid (R = false) := HR.out.trans (rule_with HEA.out HEB.out (by rw [h12]; exact Bool.or_true _))
              have q12 : (A.toList == [80, 114, 101, 112, 101, 110, 100]) = true := by rw [HKA.out.eq 12 (by decide) (by decide) [80, 114, 101, 112, 101, 110, 100] rfl]; exact by rw [h12]; rfl
              clear h12
              have hR : R = false := HR2.out
              clear HR
              subst hR
              go_wp2
              try rw [Exit.noGoto_ret]
              go_ret
              exact ⟨rfl, HB9.out⟩
            have q12 : (A.toList == [80, 114, 101, 112, 101, 110, 100]) = false := by rw [HKA.out.eq 12 (by decide) (by decide) [80, 114, 101, 112, 101, 110, 100] rfl]; exact beq_eq_false_iff_ne.2 h12
            have HRR : Hid (R = if a = 10 ∧ b' = 13 then !P else if a = 14 ∧ b' = 14 then F % 2 == 0 else true) := HR.out.trans (rule_rest HEA.out HEB.out HES.out et h12)
            clear h12 et HES
            by_cases h13 : b' = 13
            · have HPI2 := HPI.out w9 HB9.out
              have qb13 : (Bs.toList == [80, 105, 99, 116, 111, 103, 114, 97, 112, 104, 105, 99]) = true := by rw [HKB.out.eq 13 (by decide) (by decide) [80, 105, 99, 116, 111, 103, 114, 97, 112, 104, 105, 99] rfl]; exact by rw [h13]; rfl
              have qb14 : (Bs.toList == [70, 108, 97, 103]) = false := by rw [HKB.out.eq 14 (by decide) (by decide) [70, 108, 97, 103] rfl]; exact by rw [h13]; rfl
              cases hap : (a == 10 && P) with
              | true =>
                have HR3 : Hid (R = false) := by
                  rw [Bool.and_eq_true, beq_iff_eq] at hap
                  unfold Hid
                  rw [HRR.out, if_pos ⟨hap.1, h13⟩, hap.2]
                  rfl
                rw [hap] at HPI2
                clear hap h13 HRR
                go_wp2_with fail
                refine HPI2.mono ?_
                rintro e w10 ⟨rfl, bz⟩
                have HB10 : Hid (Below w.heap.size w w10) := HB9.out.trans (bz.mono HB9.out.size)
                clear HPI2 bz
                have hR : R = false := HR3.out
                clear HR
                subst hR
                go_wp2
                try rw [Exit.noGoto_ret]
                go_ret
                exact ⟨rfl, HB10.out⟩
              | false =>
                have HR3 : Hid (R = true) := by
                  unfold Hid
                  rw [HRR.out]
                  by_cases h10 : a = 10
                  · rw [if_pos ⟨h10, h13⟩]
                    rw [h10] at hap
                    have : P = false := by simpa using hap
                    rw [this]
                    rfl
                  · rw [if_neg (fun h => h10 h.1), if_neg (fun h => by rw [h13] at h; exact absurd h.2 (by decide))]
                rw [hap] at HPI2
                clear hap h13 HRR
                go_wp2_with fail
                refine HPI2.mono ?_
                rintro e w10 ⟨rfl, bz⟩
                have HB10 : Hid (Below w.heap.size w w10) := HB9.out.trans (bz.mono HB9.out.size)
                clear HPI2 bz
                have hR : R = true := HR3.out
                clear HR
                subst hR
                go_wp2
                try rw [Exit.noGoto_ret]
                go_ret
                exact ⟨rfl, HB10.out⟩
            have qb13 : (Bs.toList == [80, 105, 99, 116, 111, 103, 114, 97, 112, 104, 105, 99]) = false := by rw [HKB.out.eq 13 (by decide) (by decide) [80, 105, 99, 116, 111, 103, 114, 97, 112, 104, 105, 99] rfl]; exact beq_eq_false_iff_ne.2 h13
            by_cases h14 : b' = 14
            · have HFI2 := HFI.out w9 HB9.out
              have qb14 : (Bs.toList == [70, 108, 97, 103]) = true := by rw [HKB.out.eq 14 (by decide) (by decide) [70, 108, 97, 103] rfl]; exact by rw [h14]; rfl
              have tm : Int.tmod (F : Int) 2 = (F : Int) % 2 := Int.tmod_eq_emod_of_nonneg (by omega)
              have wy : IntKind.i64.wrap ((F : Int) % 2) = (F : Int) % 2 := by rw [IntKind.wrap_i64]; omega
              have HR4 : Hid (R = !((F : Int) % 2 == 1)) := by
                unfold Hid
                rw [HRR.out, if_neg (fun h => h13 h.2)]
                by_cases ha14 : a = 14
                · rw [if_pos ⟨ha14, h14⟩, Bool.eq_iff_iff, beq_iff_eq, Bool.not_eq_true', beq_eq_false_iff_ne]; omega
                · rw [if_neg (fun h => ha14 h.1), HF0.out ha14]; rfl
              clear h13 h14 HRR
              go_wp2_with fail
              refine HFI2.mono ?_
              rintro e w10 ⟨rfl, bz⟩
              have HB10 : Hid (Below w.heap.size w w10) := HB9.out.trans (bz.mono HB9.out.size)
              clear HFI2 bz
              cases hf : ((F : Int) % 2 == 1) with
              | true =>
                have hR : R = false := by rw [HR4.out, hf]; rfl
                clear HR HR4
                subst hR
                go_wp2
                try rw [Exit.noGoto_ret]
                go_ret
                exact ⟨rfl, HB10.out⟩
              | false =>
                have hR : R = true := by rw [HR4.out, hf]; rfl
                clear HR HR4
                subst hR
                go_wp2
                try rw [Exit.noGoto_ret]
                go_ret
                exact ⟨rfl, HB10.out⟩
            have qb14 : (Bs.toList == [70, 108, 97, 103]) = false := by rw [HKB.out.eq 14 (by decide) (by decide) [70, 108, 97, 103] rfl]; exact beq_eq_false_iff_ne.2 h14
            have HR3 : Hid (R = true) := HRR.out.trans ((if_neg (fun h => h13 h.2)).trans (if_neg (fun h => h14 h.2)))
            clear h13 h14 HRR
            have hR : R = true := HR3.out
            clear HR
            subst hR
            go_wp2
            try rw [Exit.noGoto_ret]
            go_ret
            exact ⟨rfl, HB9.out⟩
      | false =>
        have HS : Hid (inSyl a b' = ((a == 8 || a == 6) && b' == 6)) := syl_three h4 e2
        clear h4
        have HB6 : Hid (Below w.heap.size w (w5.alloc (.cells #[.string ⟨#[76, 86]⟩, .string ⟨#[86]⟩] 9))) := HB5.out.alloc HB5.out.size _
        have C := one_a2 A a w5 HKA.out
        rw [e2] at C
        go_wp2_with fail
        refine C.mono ?_
        rintro e wz ⟨rfl, hw⟩
        rw [hw]
        clear C hw wz HB5
        generalize w5.alloc (.cells #[.string ⟨#[76, 86]⟩, .string ⟨#[86]⟩] 9) = w6 at *
        clear e2
        cases e3 : (a == 8 || a == 6) with
        | true =>
          have HB7 : Hid (Below w.heap.size w (w6.alloc (.cells #[.string ⟨#[76, 86, 84]⟩, .string ⟨#[84]⟩] 9))) := HB6.out.alloc HB6.out.size _
          have C := one_a3 A a w6 HKA.out
          rw [e3] at C
          go_wp2_with fail
          refine C.mono ?_
          rintro e wz ⟨rfl, hw⟩
          rw [hw]
          clear C hw wz HB6
          generalize w6.alloc (.cells #[.string ⟨#[76, 86, 84]⟩, .string ⟨#[84]⟩] 9) = w7 at *
          by_cases h6 : b' = 6
          · have HR2 : Hid (R = false) := HR.out.trans (rule_with HEA.out HEB.out (by rw [HS.out, e3, h6]; rfl))
            have q6 : (Bs.toList == [84]) = true := by rw [HKB.out.eq 6 (by decide) (by decide) [84] rfl]; exact by rw [h6]; rfl
            clear h6 e3 HS
            have hR : R = false := HR2.out
            clear HR
            subst hR
            go_wp2
            try rw [Exit.noGoto_ret]
            go_ret
            exact ⟨rfl, HB7.out⟩
          · have HES : Hid (inSyl a b' = false) := by unfold Hid; rw [HS.out, beq_eq_false_iff_ne.2 h6, Bool.and_false]
            have q6 : (Bs.toList == [84]) = false := by rw [HKB.out.eq 6 (by decide) (by decide) [84] rfl]; exact beq_eq_false_iff_ne.2 h6
            clear h6 e3 HS
            cases et : trails b' with
            | true =>
              have HR2 : Hid (R = false) := HR.out.trans (rule_with HEA.out HEB.out (by rw [et, Bool.or_true]; rfl))
              have HB8 : Hid (Below w.heap.size w (w7.alloc (.cells #[.string ⟨#[69, 120, 116, 101, 110, 100]⟩, .string ⟨#[90, 87, 74]⟩, .string ⟨#[83, 112, 97, 99, 105, 110, 103, 77, 97, 114, 107]⟩] 9))) := HB7.out.alloc HB7.out.size _
              have C := one_tr Bs b' w7 HKB.out
              rw [tr_eq, et] at C
              go_wp2_with fail
              refine C.mono ?_
              rintro e wz ⟨rfl, hw⟩
              rw [hw]
              clear C hw wz HB7
              generalize w7.alloc (.cells #[.string ⟨#[69, 120, 116, 101, 110, 100]⟩, .string ⟨#[90, 87, 74]⟩, .string ⟨#[83, 112, 97, 99, 105, 110, 103, 77, 97, 114, 107]⟩] 9) = w8 at *
              have hR : R = false := HR2.out
              clear HR
              subst hR
              go_wp2
              try rw [Exit.noGoto_ret]
              go_ret
              exact ⟨rfl, HB8.out⟩
            | false =>
              have HB8 : Hid (Below w.heap.size w (w7.alloc (.cells #[.string ⟨#[69, 120, 116, 101, 110, 100]⟩, .string ⟨#[90, 87, 74]⟩, .string ⟨#[83, 112, 97, 99, 105, 110, 103, 77, 97, 114, 107]⟩] 9))) := HB7.out.alloc HB7.out.size _
              have C := one_tr Bs b' w7 HKB.out
              rw [tr_eq, et] at C
              go_wp2_with fail
              refine C.mono ?_
              rintro e wz ⟨rfl, hw⟩
              rw [hw]
              clear C hw wz HB7
              generalize w7.alloc (.cells #[.string ⟨#[69, 120, 116, 101, 110, 100]⟩, .string ⟨#[90, 87, 74]⟩, .string ⟨#[83, 112, 97, 99, 105, 110, 103, 77, 97, 114, 107]⟩] 9) = w8 at *
              by_cases h12 : a = 12
              · have HR2 : Hid (R = false) := HR.out.trans (rule_with HEA.out HEB.out (by rw [h12]; exact Bool.or_true _))
                have q12 : (A.toList == [80, 114, 101, 112, 101, 110, 100]) = true := by rw [HKA.out.eq 12 (by decide) (by decide) [80, 114, 101, 112, 101, 110, 100] rfl]; exact by rw [h12]; rfl
                clear h12
                have hR : R = false := HR2.out
                clear HR
                subst hR
                go_wp2
                try rw [Exit.noGoto_ret]
                go_ret
                exact ⟨rfl, HB8.out⟩
              have q12 : (A.toList == [80, 114, 101, 112, 101, 110, 100]) = false := by rw [HKA.out.eq 12 (by decide) (by decide) [80, 114, 101, 112, 101, 110, 100] rfl]; exact beq_eq_false_iff_ne.2 h12
              have HRR : Hid (R = if a = 10 ∧ b' = 13 then !P else if a = 14 ∧ b' = 14 then F % 2 == 0 else true) := HR.out.trans (rule_rest HEA.out HEB.out HES.out et h12)
              clear h12 et HES
              by_cases h13 : b' = 13
              · have HPI2 := HPI.out w8 HB8.out
                have qb13 : (Bs.toList == [80, 105, 99, 116, 111, 103, 114, 97, 112, 104, 105, 99]) = true := by rw [HKB.out.eq 13 (by decide) (by decide) [80, 105, 99, 116, 111, 103, 114, 97, 112, 104, 105, 99] rfl]; exact by rw [h13]; rfl
                have qb14 : (Bs.toList == [70, 108, 97, 103]) = false := by rw [HKB.out.eq 14 (by decide) (by decide) [70, 108, 97, 103] rfl]; exact by rw [h13]; rfl
                cases hap : (a == 10 && P) with
                | true =>
                  have HR3 : Hid (R = false) := by
                    rw [Bool.and_eq_true, beq_iff_eq] at hap
                    unfold Hid
                    rw [HRR.out, if_pos ⟨hap.1, h13⟩, hap.2]
                    rfl
                  rw [hap] at HPI2
                  clear hap h13 HRR
                  go_wp2_with fail
                  refine HPI2.mono ?_
                  rintro e w9 ⟨rfl, bz⟩
                  have HB9 : Hid (Below w.heap.size w w9) := HB8.out.trans (bz.mono HB8.out.size)
                  clear HPI2 bz
                  have hR : R = false := HR3.out
                  clear HR
                  subst hR
                  go_wp2
                  try rw [Exit.noGoto_ret]
                  go_ret
                  exact ⟨rfl, HB9.out⟩
                | false =>
                  have HR3 : Hid (R = true) := by
                    unfold Hid
                    rw [HRR.out]
                    by_cases h10 : a = 10
                    · rw [if_pos ⟨h10, h13⟩]
                      rw [h10] at hap
                      have : P = false := by simpa using hap
                      rw [this]
                      rfl
                    · rw [if_neg (fun h => h10 h.1), if_neg (fun h => by rw [h13] at h; exact absurd h.2 (by decide))]
                  rw [hap] at HPI2
                  clear hap h13 HRR
                  go_wp2_with fail
                  refine HPI2.mono ?_
                  rintro e w9 ⟨rfl, bz⟩
                  have HB9 : Hid (Below w.heap.size w w9) := HB8.out.trans (bz.mono HB8.out.size)
                  clear HPI2 bz
                  have hR : R = true := HR3.out
                  clear HR
                  subst hR
                  go_wp2
                  try rw [Exit.noGoto_ret]
                  go_ret
                  exact ⟨rfl, HB9.out⟩
              have qb13 : (Bs.toList == [80, 105, 99, 116, 111, 103, 114, 97, 112, 104, 105, 99]) = false := by rw [HKB.out.eq 13 (by decide) (by decide) [80, 105, 99, 116, 111, 103, 114, 97, 112, 104, 105, 99] rfl]; exact beq_eq_false_iff_ne.2 h13
              by_cases h14 : b' = 14
              · have HFI2 := HFI.out w8 HB8.out
                have qb14 : (Bs.toList == [70, 108, 97, 103]) = true := by rw [HKB.out.eq 14 (by decide) (by decide) [70, 108, 97, 103] rfl]; exact by rw [h14]; rfl
                have tm : Int.tmod (F : Int) 2 = (F : Int) % 2 := Int.tmod_eq_emod_of_nonneg (by omega)
                have wy : IntKind.i64.wrap ((F : Int) % 2) = (F : Int) % 2 := by rw [IntKind.wrap_i64]; omega
                have HR4 : Hid (R = !((F : Int) % 2 == 1)) := by
                  unfold Hid
                  rw [HRR.out, if_neg (fun h => h13 h.2)]
                  by_cases ha14 : a = 14
                  · rw [if_pos ⟨ha14, h14⟩, Bool.eq_iff_iff, beq_iff_eq, Bool.not_eq_true', beq_eq_false_iff_ne]; omega
                  · rw [if_neg (fun h => ha14 h.1), HF0.out ha14]; rfl
                clear h13 h14 HRR
                go_wp2_with fail
                refine HFI2.mono ?_
                rintro e w9 ⟨rfl, bz⟩
                have HB9 : Hid (Below w.heap.size w w9) := HB8.out.trans (bz.mono HB8.out.size)
                clear HFI2 bz
                cases hf : ((F : Int) % 2 == 1) with
                | true =>
                  have hR : R = false := by rw [HR4.out, hf]; rfl
                  clear HR HR4
                  subst hR
                  go_wp2
                  try rw [Exit.noGoto_ret]
                  go_ret
                  exact ⟨rfl, HB9.out⟩
                | false =>
                  have hR : R = true := by rw [HR4.out, hf]; rfl
                  clear HR HR4
                  subst hR
                  go_wp2
                  try rw [Exit.noGoto_ret]
                  go_ret
                  exact ⟨rfl, HB9.out⟩
              have qb14 : (Bs.toList == [70, 108, 97, 103]) = false := by rw [HKB.out.eq 14 (by decide) (by decide) [70, 108, 97, 103] rfl]; exact beq_eq_false_iff_ne.2 h14
              have HR3 : Hid (R = true) := HRR.out.trans ((if_neg (fun h => h13 h.2)).trans (if_neg (fun h => h14 h.2)))
              clear h13 h14 HRR
              have hR : R = true := HR3.out
              clear HR
              subst hR
              go_wp2
              try rw [Exit.noGoto_ret]
              go_ret
              exact ⟨rfl, HB8.out⟩
        | false =>
          have HB7 : Hid (Below w.heap.size w (w6.alloc (.cells #[.string ⟨#[76, 86, 84]⟩, .string ⟨#[84]⟩] 9))) := HB6.out.alloc HB6.out.size _
          have C := one_a3 A a w6 HKA.out
          rw [e3] at C
          go_wp2_with fail
          refine C.mono ?_
          rintro e wz ⟨rfl, hw⟩
          rw [hw]
          clear C hw wz HB6
          generalize w6.alloc (.cells #[.string ⟨#[76, 86, 84]⟩, .string ⟨#[84]⟩] 9) = w7 at *
          have HES : Hid (inSyl a b' = false) := by unfold Hid; rw [HS.out, e3, Bool.false_and]
          clear e3 HS
          cases et : trails b' with
          | true =>
            have HR2 : Hid (R = false) := HR.out.trans (rule_with HEA.out HEB.out (by rw [et, Bool.or_true]; rfl))
            have HB8 : Hid (Below w.heap.size w (w7.alloc (.cells #[.string ⟨#[69, 120, 116, 101, 110, 100]⟩, .string ⟨#[90, 87, 74]⟩, .string ⟨#[83, 112, 97, 99, 105, 110, 103, 77, 97, 114, 107]⟩] 9))) := HB7.out.alloc HB7.out.size _
            have C := one_tr Bs b' w7 HKB.out
            rw [tr_eq, et] at C
            go_wp2_with fail
            refine C.mono ?_
            rintro e wz ⟨rfl, hw⟩
            rw [hw]
            clear C hw wz HB7
            generalize w7.alloc (.cells #[.string ⟨#[69, 120, 116, 101, 110, 100]⟩, .string ⟨#[90, 87, 74]⟩, .string ⟨#[83, 112, 97, 99, 105, 110, 103, 77, 97, 114, 107]⟩] 9) = w8 at *
            have hR : R = false := HR2.out
            clear HR
            subst hR
            go_wp2
            try rw [Exit.noGoto_ret]
            go_ret
            exact ⟨rfl, HB8.out⟩
          | false =>
            have HB8 : Hid (Below w.heap.size w (w7.alloc (.cells #[.string ⟨#[69, 120, 116, 101, 110, 100]⟩, .string ⟨#[90, 87, 74]⟩, .string ⟨#[83, 112, 97, 99, 105, 110, 103, 77, 97, 114, 107]⟩] 9))) := HB7.out.alloc HB7.out.size _
            have C := one_tr Bs b' w7 HKB.out
            rw [tr_eq, et] at C
            go_wp2_with fail
            refine C.mono ?_
            rintro e wz ⟨rfl, hw⟩
            rw [hw]
            clear C hw wz HB7
            generalize w7.alloc (.cells #[.string ⟨#[69, 120, 116, 101, 110, 100]⟩, .string ⟨#[90, 87, 74]⟩, .string ⟨#[83, 112, 97, 99, 105, 110, 103, 77, 97, 114, 107]⟩] 9) = w8 at *
            by_cases h12 : a = 12
            · have HR2 : Hid (R = false) := HR.out.trans (rule_with HEA.out HEB.out (by rw [h12]; exact Bool.or_true _))
              have q12 : (A.toList == [80, 114, 101, 112, 101, 110, 100]) = true := by rw [HKA.out.eq 12 (by decide) (by decide) [80, 114, 101, 112, 101, 110, 100] rfl]; exact by rw [h12]; rfl
              clear h12
              have hR : R = false := HR2.out
              clear HR
              subst hR
              go_wp2
              try rw [Exit.noGoto_ret]
              go_ret
              exact ⟨rfl, HB8.out⟩
            have q12 : (A.toList == [80, 114, 101, 112, 101, 110, 100]) = false := by rw [HKA.out.eq 12 (by decide) (by decide) [80, 114, 101, 112, 101, 110, 100] rfl]; exact beq_eq_false_iff_ne.2 h12
            have HRR : Hid (R = if a = 10 ∧ b' = 13 then !P else if a = 14 ∧ b' = 14 then F % 2 == 0 else true) := HR.out.trans (rule_rest HEA.out HEB.out HES.out et h12)
            clear h12 et HES
            by_cases h13 : b' = 13
            · have HPI2 := HPI.out w8 HB8.out
              have qb13 : (Bs.toList == [80, 105, 99, 116, 111, 103, 114, 97, 112, 104, 105, 99]) = true := by rw [HKB.out.eq 13 (by decide) (by decide) [80, 105, 99, 116, 111, 103, 114, 97, 112, 104, 105, 99] rfl]; exact by rw [h13]; rfl
              have qb14 : (Bs.toList == [70, 108, 97, 103]) = false := by rw [HKB.out.eq 14 (by decide) (by decide) [70, 108, 97, 103] rfl]; exact by rw [h13]; rfl
              cases hap : (a == 10 && P) with
              | true =>
                have HR3 : Hid (R = false) := by
                  rw [Bool.and_eq_true, beq_iff_eq] at hap
                  unfold Hid
                  rw [HRR.out, if_pos ⟨hap.1, h13⟩, hap.2]
                  rfl
                rw [hap] at HPI2
                clear hap h13 HRR
                go_wp2_with fail
                refine HPI2.mono ?_
                rintro e w9 ⟨rfl, bz⟩
                have HB9 : Hid (Below w.heap.size w w9) := HB8.out.trans (bz.mono HB8.out.size)
                clear HPI2 bz
                have hR : R = false := HR3.out
                clear HR
                subst hR
                go_wp2
                try rw [Exit.noGoto_ret]
                go_ret
                exact ⟨rfl, HB9.out⟩
              | false =>
                have HR3 : Hid (R = true) := by
                  unfold Hid
                  rw [HRR.out]
                  by_cases h10 : a = 10
                  · rw [if_pos ⟨h10, h13⟩]
                    rw [h10] at hap
                    have : P = false := by simpa using hap
                    rw [this]
                    rfl
                  · rw [if_neg (fun h => h10 h.1), if_neg (fun h => by rw [h13] at h; exact absurd h.2 (by decide))]
                rw [hap] at HPI2
                clear hap h13 HRR
                go_wp2_with fail
                refine HPI2.mono ?_
                rintro e w9 ⟨rfl, bz⟩
                have HB9 : Hid (Below w.heap.size w w9) := HB8.out.trans (bz.mono HB8.out.size)
                clear HPI2 bz
                have hR : R = true := HR3.out
                clear HR
                subst hR
                go_wp2
                try rw [Exit.noGoto_ret]
                go_ret
                exact ⟨rfl, HB9.out⟩
            have qb13 : (Bs.toList == [80, 105, 99, 116, 111, 103, 114, 97, 112, 104, 105, 99]) = false := by rw [HKB.out.eq 13 (by decide) (by decide) [80, 105, 99, 116, 111, 103, 114, 97, 112, 104, 105, 99] rfl]; exact beq_eq_false_iff_ne.2 h13
            by_cases h14 : b' = 14
            · have HFI2 := HFI.out w8 HB8.out
              have qb14 : (Bs.toList == [70, 108, 97, 103]) = true := by rw [HKB.out.eq 14 (by decide) (by decide) [70, 108, 97, 103] rfl]; exact by rw [h14]; rfl
              have tm : Int.tmod (F : Int) 2 = (F : Int) % 2 := Int.tmod_eq_emod_of_nonneg (by omega)
              have wy : IntKind.i64.wrap ((F : Int) % 2) = (F : Int) % 2 := by rw [IntKind.wrap_i64]; omega
              have HR4 : Hid (R = !((F : Int) % 2 == 1)) := by
                unfold Hid
                rw [HRR.out, if_neg (fun h => h13 h.2)]
                by_cases ha14 : a = 14
                · rw [if_pos ⟨ha14, h14⟩, Bool.eq_iff_iff, beq_iff_eq, Bool.not_eq_true', beq_eq_false_iff_ne]; omega
                · rw [if_neg (fun h => ha14 h.1), HF0.out ha14]; rfl
              clear h13 h14 HRR
              go_wp2_with fail
              refine HFI2.mono ?_
              rintro e w9 ⟨rfl, bz⟩
              have HB9 : Hid (Below w.heap.size w w9) := HB8.out.trans (bz.mono HB8.out.size)
              clear HFI2 bz
              cases hf : ((F : Int) % 2 == 1) with
              | true =>
                have hR : R = false := by rw [HR4.out, hf]; rfl
                clear HR HR4
                subst hR
                go_wp2
                try rw [Exit.noGoto_ret]
                go_ret
                exact ⟨rfl, HB9.out⟩
              | false =>
                have hR : R = true := by rw [HR4.out, hf]; rfl
                clear HR HR4
                subst hR
                go_wp2
                try rw [Exit.noGoto_ret]
                go_ret
                exact ⟨rfl, HB9.out⟩
            have qb14 : (Bs.toList == [70, 108, 97, 103]) = false := by rw [HKB.out.eq 14 (by decide) (by decide) [70, 108, 97, 103] rfl]; exact beq_eq_false_iff_ne.2 h14
            have HR3 : Hid (R = true) := HRR.out.trans ((if_neg (fun h => h13 h.2)).trans (if_neg (fun h => h14 h.2)))
            clear h13 h14 HRR
            have hR : R = true := HR3.out
            clear HR
            subst hR
            go_wp2
            try rw [Exit.noGoto_ret]
            go_ret
            exact ⟨rfl, HB8.out⟩
set_option maxHeartbeats 8000000 in
set_option maxRecDepth 1000000 in
theorem redge_t (t : Nat) (ao : Option Addr) (N cap : Nat) (l : List Int) (i : Int) (w : World) (h : RTabs w t) (hv : Txt w ao N cap l) :
    Calls Tryz.prog 13 #[.pointer (some ⟨t, 0, none⟩), .slice ao N cap, .int .i64 i] w fun e w' => e = .returned (.bool (edgeP l i)) ∧ Below w.heap.size w w' := by
  have hl := hv.length
  have hlen := hv.len
  obtain ⟨R, hR⟩ : ∃ R, edgeP l i = R := ⟨_, rfl⟩
  have HE : Hid ((if N = 0 ∨ i < 0 ∨ (N : Int) < i then false else if i = 0 ∨ i = N then true else parted l i.toNat) = R) := by unfold Hid; rw [← hR, ← hl]; rfl
  rw [hR]
  by_cases h1 : i < 0
  · have hRf : R = false := by rw [← HE.out, if_pos (.inr (.inl h1))]
    clear HE h hv hl hR
    subst hRf
    go_enter Tryz.func13, Tryz.ntmps13
    go_wp2
    go_ret
    exact ⟨rfl, Below.refl _ _⟩
  by_cases h2 : (N : Int) < i
  · have hRf : R = false := by rw [← HE.out, if_pos (.inr (.inr h2))]
    clear HE h hv hl hR
    subst hRf
    go_enter Tryz.func13, Tryz.ntmps13
    go_wp2
    go_ret
    exact ⟨rfl, Below.refl _ _⟩
  by_cases h0 : N = 0
  · have hRf : R = false := by rw [← HE.out, if_pos (.inl h0)]
    clear HE h hv hl hR
    subst hRf h0
    go_enter Tryz.func13, Tryz.ntmps13
    go_wp2
    go_ret
    exact ⟨rfl, Below.refl _ _⟩
  have q0 : ((N : Int) == 0) = false := by rw [beq_eq_false_iff_ne]; omega
  by_cases h3 : i = 0
  · have hRf : R = true := by rw [← HE.out, if_neg (by omega), if_pos (.inl h3)]
    clear HE h hv hl hR
    subst hRf h3
    go_enter Tryz.func13, Tryz.ntmps13
    go_wp2
    go_ret
    exact ⟨rfl, Below.refl _ _⟩
  have q3 : (i == 0) = false := beq_eq_false_iff_ne.2 h3
  by_cases h4 : i = N
  · have hRf : R = true := by rw [← HE.out, if_neg (by omega), if_pos (.inr h4)]
    have q4 : (i == (N : Int)) = true := by rw [h4]; exact beq_self_eq_true _
    clear HE h hv hl hR h4 h3
    subst hRf
    go_enter Tryz.func13, Tryz.ntmps13
    go_wp2
    go_ret
    exact ⟨rfl, Below.refl _ _⟩
  obtain ⟨m, hm⟩ : ∃ m : Nat, i = ((m + 1 : Nat) : Int) := ⟨i.toNat - 1, by omega⟩
  obtain ⟨n, hn⟩ : ∃ n : Nat, n = m + 1 := ⟨_, rfl⟩
  rw [← hn] at hm
  subst hm
  have hRf : R = parted l n := by rw [← HE.out, if_neg (by omega), if_neg (by omega), Int.toNat_natCast]
  rw [hRf]
  exact redge_in t ao N cap m n l w h hv hn (by omega)
set_option maxHeartbeats 4000000 in
set_option maxRecDepth 1000000 in
theorem rnext_out (t : Nat) (ao : Option Addr) (N cap : Nat) (i : Int) (w : World) (hi : i < 0 ∨ (N : Int) ≤ i) :
    Calls Tryz.prog 17 #[.pointer (some ⟨t, 0, none⟩), .slice ao N cap, .int .i64 i] w fun e w' => e = .returned (.int .i64 i) ∧ Below w.heap.size w w' := by
  by_cases h1 : i < 0
  · clear hi
    go_enter Tryz.func17, Tryz.ntmps17
    go_wp2
    go_ret
    exact ⟨rfl, Below.refl _ _⟩
  · have h2 : (N : Int) ≤ i := by omega
    clear hi
    go_enter Tryz.func17, Tryz.ntmps17
    go_wp2
    go_ret
    exact ⟨rfl, Below.refl _ _⟩
set_option maxHeartbeats 4000000 in
set_option maxRecDepth 1000000 in
theorem rnext_t (t : Nat) (ao : Option Addr) (N cap : Nat) (l : List Int) (i : Int) (w : World) (h : RTabs w t) (hv : Txt w ao N cap l) (h0 : 0 ≤ i) (hN : i < N) :
    Calls Tryz.prog 17 #[.pointer (some ⟨t, 0, none⟩), .slice ao N cap, .int .i64 i] w fun e w' => ∃ m, e = .returned (.int .i64 m) ∧ IsNext l i m ∧ Below w.heap.size w w' := by
  have hl := hv.length
  have hlen := hv.len
  have HEI : Hid (∀ W j, Below w.heap.size w W → Calls Tryz.prog 13 #[.pointer (some ⟨t, 0, none⟩), .slice ao N cap, .int .i64 j] W fun e w' => e = .returned (.bool (edgeP l j)) ∧ Below W.heap.size W w') := fun W j hb => redge_t t ao N cap l j W (h.below hb) (hv.below hb)
  have HEND : Hid (edgeP l (N : Int) = true) := by unfold Hid; rw [← hl]; exact edge_end (by omega)
  have HFIN : Hid (∀ m, i < m → m ≤ N → edgeP l m = true → (∀ j, i < j → j < m → edgeP l j = false) → IsNext l i m) := fun m h1 h2 h3 h4 => ⟨h1, by rw [hl]; exact h2, h3, h4⟩
  have hi1 : ¬ i < 0 := by omega
  have hi2 : ¬ (N : Int) ≤ i := by omega
  have w1 : IntKind.i64.wrap (i + 1) = i + 1 := by rw [IntKind.wrap_i64]; omega
  clear h hv hl
  go_enter Tryz.func17, Tryz.ntmps17
  go_wp2
  go_loopw [7] (fun v wr => ∃ j : Int, i < j ∧ j ≤ N ∧ v = .int .i64 j ∧ Hid (∀ k, i < k → k < j → edgeP l k = false) ∧ Hid (Below w.heap.size w wr)) (fun v _ => ((N : Int) - RowKit.intOf v).toNat)
  case atStart => exact ⟨i + 1, by omega, by omega, rfl, fun k h1 h2 => by omega, Below.refl _ _⟩
  case round =>
    obtain ⟨j, hj1, hj2, rfl, HNO, HB⟩ := hrel
    have C := HEI.out wr j HB.out
    cases he : edgeP l j with
    | true =>
      rw [he] at C
      have HF : Hid (IsNext l i j) := HFIN.out j hj1 hj2 he HNO.out
      clear he HNO
      go_wp2_with fail
      refine C.mono ?_
      rintro e wb ⟨rfl, hb⟩
      clear C
      have HB2 : Hid (Below w.heap.size w wb) := HB.out.trans (hb.mono HB.out.size)
      clear hb HB
      go_wp2
      go_ret
      exact ⟨_, rfl, HF.out, HB2.out⟩
    | false =>
      rw [he] at C
      have hjn : j ≠ N := fun e => by rw [e, HEND.out] at he; cases he
      have HNO2 : Hid (∀ k, i < k → k < j + 1 → edgeP l k = false) := fun k h1 h2 => by
        by_cases e : k = j
        · rw [e]; exact he
        · exact HNO.out k h1 (by omega)
      have hjn2 : j < N := by omega
      have w2 : IntKind.i64.wrap (j + 1) = j + 1 := by rw [IntKind.wrap_i64]; omega
      clear he HNO hjn
      go_wp2_with fail
      refine C.mono ?_
      rintro e wb ⟨rfl, hb⟩
      clear C
      have HB2 : Hid (Below w.heap.size w wb) := HB.out.trans (hb.mono HB.out.size)
      clear hb HB
      go_wp2
      exact ⟨⟨j + 1, by omega, by omega, rfl, HNO2, HB2⟩, by simp [RowKit.intOf]; omega⟩
end Go.Proofs.YtbdojobplhpnbaaGreatDoor.clu
end
