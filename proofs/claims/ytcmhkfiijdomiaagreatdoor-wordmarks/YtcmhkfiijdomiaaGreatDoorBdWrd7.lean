/- Texts that the proof leans on, one behind the other. -/
import Derived.Test.YtcmhkfiijdomiaaGreatDoorBdWrd6

section
/- rubricatorref11.joined. -/
set_option linter.unusedVariables false
set_option linter.unusedSimpArgs false
namespace Go.Proofs.YtcmhkfiijdomiaaGreatDoor.wrd
open Go.RowKit Go.Maps
open Go.Proofs.YtcmhkfiijdomiaaGreatDoor.lin Go.Proofs.YtcmhkfiijdomiaaGreatDoor.prp

/-- Code and then code, by what holds between them. -/
theorem seq_k {P : Program} {x y : Code} {Q : Exit → Act → World → Prop} {a : Act} {w : World} {ι : Type} (puts : ι → Act → Act) (G : ι → World → Prop)
    (h1 : ∀ (K : Act → World → Prop) (Q' : Exit → Act → World → Prop), (∀ v W, G v W → K (puts v a) W) → x.wp P (Exit.then K Q') a w) (h2 : ∀ v W, G v W → y.wp P Q (puts v a) W) : (Code.seq x y).wp P Q a w :=
  wp_seq (h1 _ _ h2)
set_option maxHeartbeats 16000000 in
set_option maxRecDepth 1000000 in
theorem joined_any (A2 A B B2 : ByteArray) (a2 a b b2 : Int) (w : World) (i2 : IsW A2 a2) (ia : IsW A a) (ib : IsW B b) (ib2 : IsW B2 b2) :
    Calls Tryz.prog 46 #[.string A2, .string A, .string B, .string B2] w fun e w' => e = .returned (.bool (joinB a2 a b b2)) ∧ Below w.heap.size w w' := by
  have HCla : Hid (∀ W : World, Below w.heap.size w W → Calls Tryz.prog 73 #[.string A] W fun e w' => e = .returned (.bool (letB a)) ∧ Below W.heap.size W w') := fun W _ => rletter_any _ _ W ia
  have HClb : Hid (∀ W : World, Below w.heap.size w W → Calls Tryz.prog 73 #[.string B] W fun e w' => e = .returned (.bool (letB b)) ∧ Below W.heap.size W w') := fun W _ => rletter_any _ _ W ib
  have feb_13 := ib.n13
  have HCqb : Hid (∀ W : World, Below w.heap.size w W → Calls Tryz.prog 74 #[.string B] W fun e w' => e = .returned (.bool (quoB b)) ∧ Below W.heap.size W w') := fun W _ => rquote_any _ _ W ib
  have HClb2 : Hid (∀ W : World, Below w.heap.size w W → Calls Tryz.prog 73 #[.string B2] W fun e w' => e = .returned (.bool (letB b2)) ∧ Below W.heap.size W w') := fun W _ => rletter_any _ _ W ib2
  have HCla2 : Hid (∀ W : World, Below w.heap.size w W → Calls Tryz.prog 73 #[.string A2] W fun e w' => e = .returned (.bool (letB a2)) ∧ Below W.heap.size W w') := fun W _ => rletter_any _ _ W i2
  have fea_13 := ia.n13
  have HCqa : Hid (∀ W : World, Below w.heap.size w W → Calls Tryz.prog 74 #[.string A] W fun e w' => e = .returned (.bool (quoB a)) ∧ Below W.heap.size W w') := fun W _ => rquote_any _ _ W ia
  have fea_10 := ia.n10
  have feb_11 := ib.n11
  have feb_12 := ib.n12
  have feb2_10 := ib2.n10
  have fea2_10 := i2.n10
  have fea_12 := ia.n12
  have feb_10 := ib.n10
  have fea_16 := ia.n16
  have feb_16 := ib.n16
  have feb_14 := ib.n14
  have feb2_16 := ib2.n16
  have fea2_16 := i2.n16
  have fea_14 := ia.n14
  have fea_17 := ia.n17
  have feb_17 := ib.n17
  have HOn3_a : Hid (∀ W : World, Calls Tryz.prog 42 #[.string A, .slice (some ⟨W.heap.size, 0, none⟩) 3 3] (W.alloc (.cells #[.string ⟨#[78, 117, 109, 101, 114, 105, 99]⟩, .string ⟨#[75, 97, 116, 97, 107, 97, 110, 97]⟩, .string ⟨#[74, 111, 105, 110, 101, 114]⟩] 9)) fun e w' => e = .returned (.bool (a == 16 || a == 17 || a == 18)) ∧ w' = W.alloc (.cells #[.string ⟨#[78, 117, 109, 101, 114, 105, 99]⟩, .string ⟨#[75, 97, 116, 97, 107, 97, 110, 97]⟩, .string ⟨#[74, 111, 105, 110, 101, 114]⟩] 9)) := fun W => one_n3 _ _ W ia
  have feb_18 := ib.n18
  have fea_18 := ia.n18
  have HOn2_b : Hid (∀ W : World, Calls Tryz.prog 42 #[.string B, .slice (some ⟨W.heap.size, 0, none⟩) 2 2] (W.alloc (.cells #[.string ⟨#[78, 117, 109, 101, 114, 105, 99]⟩, .string ⟨#[75, 97, 116, 97, 107, 97, 110, 97]⟩] 9)) fun e w' => e = .returned (.bool (b == 16 || b == 17)) ∧ w' = W.alloc (.cells #[.string ⟨#[78, 117, 109, 101, 114, 105, 99]⟩, .string ⟨#[75, 97, 116, 97, 107, 97, 110, 97]⟩] 9)) := fun W => one_n2 _ _ W ib
  unfold joinB
  clear i2 ia ib ib2
  generalize (a == 16 || a == 17 || a == 18) = on3_a at *
  generalize (b == 16 || b == 17) = on2_b at *
  generalize letB a = la at *
  generalize letB b = lb at *
  generalize (b == 13) = eb_13 at *
  generalize quoB b = qb at *
  generalize letB b2 = lb2 at *
  generalize letB a2 = la2 at *
  generalize (a == 13) = ea_13 at *
  generalize quoB a = qa at *
  generalize (a == 10) = ea_10 at *
  generalize (b == 11) = eb_11 at *
  generalize (b == 12) = eb_12 at *
  generalize (b2 == 10) = eb2_10 at *
  generalize (a2 == 10) = ea2_10 at *
  generalize (a == 12) = ea_12 at *
  generalize (b == 10) = eb_10 at *
  generalize (a == 16) = ea_16 at *
  generalize (b == 16) = eb_16 at *
  generalize (b == 14) = eb_14 at *
  generalize (b2 == 16) = eb2_16 at *
  generalize (a2 == 16) = ea2_16 at *
  generalize (a == 14) = ea_14 at *
  generalize (a == 17) = ea_17 at *
  generalize (b == 17) = eb_17 at *
  generalize (b == 18) = eb_18 at *
  generalize (a == 18) = ea_18 at *
  obtain ⟨R0, hR0⟩ : ∃ R, (la && lb) = R := ⟨_, rfl⟩
  obtain ⟨R1, hR1⟩ : ∃ R, ((la && (eb_13 || qb)) && lb2) = R := ⟨_, rfl⟩
  obtain ⟨R2, hR2⟩ : ∃ R, ((la2 && (ea_13 || qa)) && lb) = R := ⟨_, rfl⟩
  obtain ⟨R3, hR3⟩ : ∃ R, (ea_10 && eb_11) = R := ⟨_, rfl⟩
  obtain ⟨R4, hR4⟩ : ∃ R, ((ea_10 && eb_12) && eb2_10) = R := ⟨_, rfl⟩
  obtain ⟨R5, hR5⟩ : ∃ R, ((ea2_10 && ea_12) && eb_10) = R := ⟨_, rfl⟩
  obtain ⟨R6, hR6⟩ : ∃ R, (((ea_16 || la) && eb_16) || (ea_16 && lb)) = R := ⟨_, rfl⟩
  obtain ⟨R7, hR7⟩ : ∃ R, ((ea_16 && (eb_14 || qb)) && eb2_16) = R := ⟨_, rfl⟩
  obtain ⟨R8, hR8⟩ : ∃ R, ((ea2_16 && (ea_14 || qa)) && eb_16) = R := ⟨_, rfl⟩
  obtain ⟨R9, hR9⟩ : ∃ R, (ea_17 && eb_17) = R := ⟨_, rfl⟩
  obtain ⟨R10, hR10⟩ : ∃ R, ((la || on3_a) && eb_18) = R := ⟨_, rfl⟩
  obtain ⟨R11, hR11⟩ : ∃ R, (ea_18 && (lb || on2_b)) = R := ⟨_, rfl⟩
  have HJ : Hid (∀ r : Bool, (R0 || R1 || R2 || R3 || R4 || R5 || R6 || R7 || R8 || R9 || R10 || R11) = r → ((la && lb) || ((la && (eb_13 || qb)) && lb2) || ((la2 && (ea_13 || qa)) && lb) || (ea_10 && eb_11) || ((ea_10 && eb_12) && eb2_10) || ((ea2_10 && ea_12) && eb_10) || (((ea_16 || la) && eb_16) || (ea_16 && lb)) || ((ea_16 && (eb_14 || qb)) && eb2_16) || ((ea2_16 && (ea_14 || qa)) && eb_16) || (ea_17 && eb_17) || ((la || on3_a) && eb_18) || (ea_18 && (lb || on2_b))) = r) := fun r h => by rw [← h, hR0, hR1, hR2, hR3, hR4, hR5, hR6, hR7, hR8, hR9, hR10, hR11]
  rw [hR0, hR1, hR2, hR3, hR4, hR5, hR6, hR7, hR8, hR9, hR10, hR11]
  have HR0 : Hid ((la && lb) = R0) := hR0
  have HR1 : Hid (((la && (eb_13 || qb)) && lb2) = R1) := hR1
  have HR2 : Hid (((la2 && (ea_13 || qa)) && lb) = R2) := hR2
  have HR3 : Hid ((ea_10 && eb_11) = R3) := hR3
  have HR4 : Hid (((ea_10 && eb_12) && eb2_10) = R4) := hR4
  have HR5 : Hid (((ea2_10 && ea_12) && eb_10) = R5) := hR5
  have HR6 : Hid ((((ea_16 || la) && eb_16) || (ea_16 && lb)) = R6) := hR6
  have HR7 : Hid (((ea_16 && (eb_14 || qb)) && eb2_16) = R7) := hR7
  have HR8 : Hid (((ea2_16 && (ea_14 || qa)) && eb_16) = R8) := hR8
  have HR9 : Hid ((ea_17 && eb_17) = R9) := hR9
  have HR10 : Hid (((la || on3_a) && eb_18) = R10) := hR10
  have HR11 : Hid ((ea_18 && (lb || on2_b)) = R11) := hR11
  clear hR0 hR1 hR2 hR3 hR4 hR5 hR6 hR7 hR8 hR9 hR10 hR11 HJ
  have HBw : Hid (Below w.heap.size w w) := Below.refl _ _
  go_enter Tryz.func46, Tryz.ntmps46
  refine seq_k (ι := Unit) (puts := fun _ a => a.put (some 8) (.bool false)) (G := fun _ V => V = w) ?_ ?_
  · intro K Q' hk
    have hk2 := hk () w rfl
    simp only [Act.put, List.getElem_toArray, List.getElem_cons_zero, List.getElem_cons_succ, List.setIfInBounds_toArray, List.set_cons_zero, List.set_cons_succ] at hk2
    go_wp2
    exact hk2
  rintro _ V hV
  rw [hV]
  clear hV V
  simp only [Act.put, List.getElem_toArray, List.getElem_cons_zero, List.getElem_cons_succ, List.setIfInBounds_toArray, List.set_cons_zero, List.set_cons_succ]
  refine wp_seq (wp_block ?_)
  refine seq_k (ι := Value × Value × Value × Value × Value × Value) (puts := fun v a => (((((((a.put (some 10) v.1).put (some 11) v.2.1).put (some 12) v.2.2.1).put (some 13) v.2.2.2.1).put (some 14) v.2.2.2.2.1).put (some 15) v.2.2.2.2.2).put (some 9) (.bool R0))) (G := fun _ V => Below w.heap.size w V) ?_ ?_
  · intro K Q' hk
    have hk2 := fun (v0 v1 v2 v3 v4 v5 : Value) (V : World) (hb : Below w.heap.size w V) => hk (v0, v1, v2, v3, v4, v5) V hb
    simp only [Act.put, List.getElem_toArray, List.getElem_cons_zero, List.getElem_cons_succ, List.setIfInBounds_toArray, List.set_cons_zero, List.set_cons_succ] at hk2
    have HK : Hid _ := hk2
    clear hk hk2
    cases la with
    | true =>
      cases lb with
      | true =>
        obtain rfl : R0 = true := HR0.out.symm
        have C := HCla.out w HBw.out
        go_wp2_with fail
        refine C.mono ?_
        rintro e wc1 ⟨rfl, bz⟩
        clear C
        have HBwc1 : Hid (Below w.heap.size w wc1) := HBw.out.trans (bz.mono HBw.out.size)
        clear bz
        have C := HClb.out wc1 HBwc1.out
        go_wp2_with fail
        refine C.mono ?_
        rintro e wc2 ⟨rfl, bz⟩
        clear C
        have HBwc2 : Hid (Below w.heap.size w wc2) := HBwc1.out.trans (bz.mono HBwc1.out.size)
        clear bz
        go_wp2
        exact HK.out _ _ _ _ _ _ _ HBwc2.out
      | false =>
        obtain rfl : R0 = false := HR0.out.symm
        have C := HCla.out w HBw.out
        go_wp2_with fail
        refine C.mono ?_
        rintro e wc1 ⟨rfl, bz⟩
        clear C
        have HBwc1 : Hid (Below w.heap.size w wc1) := HBw.out.trans (bz.mono HBw.out.size)
        clear bz
        have C := HClb.out wc1 HBwc1.out
        go_wp2_with fail
        refine C.mono ?_
        rintro e wc2 ⟨rfl, bz⟩
        clear C
        have HBwc2 : Hid (Below w.heap.size w wc2) := HBwc1.out.trans (bz.mono HBwc1.out.size)
        clear bz
        go_wp2
        exact HK.out _ _ _ _ _ _ _ HBwc2.out
    | false =>
      obtain rfl : R0 = false := HR0.out.symm
      have C := HCla.out w HBw.out
      go_wp2_with fail
      refine C.mono ?_
      rintro e wc1 ⟨rfl, bz⟩
      clear C
      have HBwc1 : Hid (Below w.heap.size w wc1) := HBw.out.trans (bz.mono HBw.out.size)
      clear bz
      go_wp2
      exact HK.out _ _ _ _ _ _ _ HBwc1.out
  · rintro ⟨v0, v1, v2, v3, v4, v5⟩ x0 hb
    have HBx0 : Hid (Below w.heap.size w x0) := hb
    clear hb
    simp only [Act.put, List.getElem_toArray, List.getElem_cons_zero, List.getElem_cons_succ, List.setIfInBounds_toArray, List.set_cons_zero, List.set_cons_succ]
    clear HR0
    cases R0 with
    | true =>
      refine wp_cond_true rfl ?_
      go_wp2
      try rw [Exit.noGoto_ret]
      go_ret
      exact ⟨by first | rfl | simp, HBx0.out⟩
    | false =>
      refine wp_cond_false rfl ?_
      refine seq_k (ι := Value × Value × Value × Value × Value × Value × Value × Value × Value × Value × Value × Value × Value × Value) (puts := fun v a => (((((((((((((((a.put (some 17) v.1).put (some 18) v.2.1).put (some 19) v.2.2.1).put (some 20) v.2.2.2.1).put (some 21) v.2.2.2.2.1).put (some 22) v.2.2.2.2.2.1).put (some 23) v.2.2.2.2.2.2.1).put (some 24) v.2.2.2.2.2.2.2.1).put (some 25) v.2.2.2.2.2.2.2.2.1).put (some 26) v.2.2.2.2.2.2.2.2.2.1).put (some 27) v.2.2.2.2.2.2.2.2.2.2.1).put (some 28) v.2.2.2.2.2.2.2.2.2.2.2.1).put (some 29) v.2.2.2.2.2.2.2.2.2.2.2.2.1).put (some 30) v.2.2.2.2.2.2.2.2.2.2.2.2.2).put (some 16) (.bool R1))) (G := fun _ V => Below w.heap.size w V) ?_ ?_
      · intro K Q' hk
        have hk2 := fun (v0 v1 v2 v3 v4 v5 v6 v7 v8 v9 v10 v11 v12 v13 : Value) (V : World) (hb : Below w.heap.size w V) => hk (v0, v1, v2, v3, v4, v5, v6, v7, v8, v9, v10, v11, v12, v13) V hb
        simp only [Act.put, List.getElem_toArray, List.getElem_cons_zero, List.getElem_cons_succ, List.setIfInBounds_toArray, List.set_cons_zero, List.set_cons_succ] at hk2
        have HK : Hid _ := hk2
        clear hk hk2
        cases la with
        | true =>
          cases eb_13 with
          | true =>
            cases lb2 with
            | true =>
              obtain rfl : R1 = true := HR1.out.symm
              have C := HCla.out x0 HBx0.out
              go_wp2_with fail
              refine C.mono ?_
              rintro e wc1 ⟨rfl, bz⟩
              clear C
              have HBwc1 : Hid (Below w.heap.size w wc1) := HBx0.out.trans (bz.mono HBx0.out.size)
              clear bz
              have C := HClb2.out wc1 HBwc1.out
              go_wp2_with fail
              refine C.mono ?_
              rintro e wc2 ⟨rfl, bz⟩
              clear C
              have HBwc2 : Hid (Below w.heap.size w wc2) := HBwc1.out.trans (bz.mono HBwc1.out.size)
              clear bz
              go_wp2
              exact HK.out _ _ _ _ _ _ _ _ _ _ _ _ _ _ _ HBwc2.out
            | false =>
              obtain rfl : R1 = false := HR1.out.symm
              have C := HCla.out x0 HBx0.out
              go_wp2_with fail
              refine C.mono ?_
              rintro e wc1 ⟨rfl, bz⟩
              clear C
              have HBwc1 : Hid (Below w.heap.size w wc1) := HBx0.out.trans (bz.mono HBx0.out.size)
              clear bz
              have C := HClb2.out wc1 HBwc1.out
              go_wp2_with fail
              refine C.mono ?_
              rintro e wc2 ⟨rfl, bz⟩
              clear C
              have HBwc2 : Hid (Below w.heap.size w wc2) := HBwc1.out.trans (bz.mono HBwc1.out.size)
              clear bz
              go_wp2
              exact HK.out _ _ _ _ _ _ _ _ _ _ _ _ _ _ _ HBwc2.out
          | false =>
            cases qb with
            | true =>
              cases lb2 with
              | true =>
                obtain rfl : R1 = true := HR1.out.symm
                have C := HCla.out x0 HBx0.out
                go_wp2_with fail
                refine C.mono ?_
                rintro e wc1 ⟨rfl, bz⟩
                clear C
                have HBwc1 : Hid (Below w.heap.size w wc1) := HBx0.out.trans (bz.mono HBx0.out.size)
                clear bz
                have C := HCqb.out wc1 HBwc1.out
                go_wp2_with fail
                refine C.mono ?_
                rintro e wc2 ⟨rfl, bz⟩
                clear C
                have HBwc2 : Hid (Below w.heap.size w wc2) := HBwc1.out.trans (bz.mono HBwc1.out.size)
                clear bz
                have C := HClb2.out wc2 HBwc2.out
                go_wp2_with fail
                refine C.mono ?_
                rintro e wc3 ⟨rfl, bz⟩
                clear C
                have HBwc3 : Hid (Below w.heap.size w wc3) := HBwc2.out.trans (bz.mono HBwc2.out.size)
                clear bz
                go_wp2
                exact HK.out _ _ _ _ _ _ _ _ _ _ _ _ _ _ _ HBwc3.out
              | false =>
                obtain rfl : R1 = false := HR1.out.symm
                have C := HCla.out x0 HBx0.out
                go_wp2_with fail
                refine C.mono ?_
                rintro e wc1 ⟨rfl, bz⟩
                clear C
                have HBwc1 : Hid (Below w.heap.size w wc1) := HBx0.out.trans (bz.mono HBx0.out.size)
                clear bz
                have C := HCqb.out wc1 HBwc1.out
                go_wp2_with fail
                refine C.mono ?_
                rintro e wc2 ⟨rfl, bz⟩
                clear C
                have HBwc2 : Hid (Below w.heap.size w wc2) := HBwc1.out.trans (bz.mono HBwc1.out.size)
                clear bz
                have C := HClb2.out wc2 HBwc2.out
                go_wp2_with fail
                refine C.mono ?_
                rintro e wc3 ⟨rfl, bz⟩
                clear C
                have HBwc3 : Hid (Below w.heap.size w wc3) := HBwc2.out.trans (bz.mono HBwc2.out.size)
                clear bz
                go_wp2
                exact HK.out _ _ _ _ _ _ _ _ _ _ _ _ _ _ _ HBwc3.out
            | false =>
              obtain rfl : R1 = false := HR1.out.symm
              have C := HCla.out x0 HBx0.out
              go_wp2_with fail
              refine C.mono ?_
              rintro e wc1 ⟨rfl, bz⟩
              clear C
              have HBwc1 : Hid (Below w.heap.size w wc1) := HBx0.out.trans (bz.mono HBx0.out.size)
              clear bz
              have C := HCqb.out wc1 HBwc1.out
              go_wp2_with fail
              refine C.mono ?_
              rintro e wc2 ⟨rfl, bz⟩
              clear C
              have HBwc2 : Hid (Below w.heap.size w wc2) := HBwc1.out.trans (bz.mono HBwc1.out.size)
              clear bz
              go_wp2
              exact HK.out _ _ _ _ _ _ _ _ _ _ _ _ _ _ _ HBwc2.out
        | false =>
          obtain rfl : R1 = false := HR1.out.symm
          have C := HCla.out x0 HBx0.out
          go_wp2_with fail
          refine C.mono ?_
          rintro e wc1 ⟨rfl, bz⟩
          clear C
          have HBwc1 : Hid (Below w.heap.size w wc1) := HBx0.out.trans (bz.mono HBx0.out.size)
          clear bz
          go_wp2
          exact HK.out _ _ _ _ _ _ _ _ _ _ _ _ _ _ _ HBwc1.out
      · rintro ⟨v0, v1, v2, v3, v4, v5, v6, v7, v8, v9, v10, v11, v12, v13⟩ x1 hb
        have HBx1 : Hid (Below w.heap.size w x1) := hb
        clear hb
        simp only [Act.put, List.getElem_toArray, List.getElem_cons_zero, List.getElem_cons_succ, List.setIfInBounds_toArray, List.set_cons_zero, List.set_cons_succ]
        clear HR1 HBx0
        cases R1 with
        | true =>
          refine wp_cond_true rfl ?_
          go_wp2
          try rw [Exit.noGoto_ret]
          go_ret
          exact ⟨by first | rfl | simp, HBx1.out⟩
        | false =>
          refine wp_cond_false rfl ?_
          refine seq_k (ι := Value × Value × Value × Value × Value × Value × Value × Value × Value × Value × Value × Value × Value × Value) (puts := fun v a => (((((((((((((((a.put (some 32) v.1).put (some 33) v.2.1).put (some 34) v.2.2.1).put (some 35) v.2.2.2.1).put (some 36) v.2.2.2.2.1).put (some 37) v.2.2.2.2.2.1).put (some 38) v.2.2.2.2.2.2.1).put (some 39) v.2.2.2.2.2.2.2.1).put (some 40) v.2.2.2.2.2.2.2.2.1).put (some 41) v.2.2.2.2.2.2.2.2.2.1).put (some 42) v.2.2.2.2.2.2.2.2.2.2.1).put (some 43) v.2.2.2.2.2.2.2.2.2.2.2.1).put (some 44) v.2.2.2.2.2.2.2.2.2.2.2.2.1).put (some 45) v.2.2.2.2.2.2.2.2.2.2.2.2.2).put (some 31) (.bool R2))) (G := fun _ V => Below w.heap.size w V) ?_ ?_
          · intro K Q' hk
            have hk2 := fun (v0 v1 v2 v3 v4 v5 v6 v7 v8 v9 v10 v11 v12 v13 : Value) (V : World) (hb : Below w.heap.size w V) => hk (v0, v1, v2, v3, v4, v5, v6, v7, v8, v9, v10, v11, v12, v13) V hb
            simp only [Act.put, List.getElem_toArray, List.getElem_cons_zero, List.getElem_cons_succ, List.setIfInBounds_toArray, List.set_cons_zero, List.set_cons_succ] at hk2
            have HK : Hid _ := hk2
            clear hk hk2
            cases la2 with
            | true =>
              cases ea_13 with
              | true =>
                cases lb with
                | true =>
                  obtain rfl : R2 = true := HR2.out.symm
                  have C := HCla2.out x1 HBx1.out
                  go_wp2_with fail
                  refine C.mono ?_
                  rintro e wc1 ⟨rfl, bz⟩
                  clear C
                  have HBwc1 : Hid (Below w.heap.size w wc1) := HBx1.out.trans (bz.mono HBx1.out.size)
                  clear bz
                  have C := HClb.out wc1 HBwc1.out
                  go_wp2_with fail
                  refine C.mono ?_
                  rintro e wc2 ⟨rfl, bz⟩
                  clear C
                  have HBwc2 : Hid (Below w.heap.size w wc2) := HBwc1.out.trans (bz.mono HBwc1.out.size)
                  clear bz
                  go_wp2
                  exact HK.out _ _ _ _ _ _ _ _ _ _ _ _ _ _ _ HBwc2.out
                | false =>
                  obtain rfl : R2 = false := HR2.out.symm
                  have C := HCla2.out x1 HBx1.out
                  go_wp2_with fail
                  refine C.mono ?_
                  rintro e wc1 ⟨rfl, bz⟩
                  clear C
                  have HBwc1 : Hid (Below w.heap.size w wc1) := HBx1.out.trans (bz.mono HBx1.out.size)
                  clear bz
                  have C := HClb.out wc1 HBwc1.out
                  go_wp2_with fail
                  refine C.mono ?_
                  rintro e wc2 ⟨rfl, bz⟩
                  clear C
                  have HBwc2 : Hid (Below w.heap.size w wc2) := HBwc1.out.trans (bz.mono HBwc1.out.size)
                  clear bz
                  go_wp2
                  exact HK.out _ _ _ _ _ _ _ _ _ _ _ _ _ _ _ HBwc2.out
              | false =>
                cases qa with
                | true =>
                  cases lb with
                  | true =>
                    obtain rfl : R2 = true := HR2.out.symm
                    have C := HCla2.out x1 HBx1.out
                    go_wp2_with fail
                    refine C.mono ?_
                    rintro e wc1 ⟨rfl, bz⟩
                    clear C
                    have HBwc1 : Hid (Below w.heap.size w wc1) := HBx1.out.trans (bz.mono HBx1.out.size)
                    clear bz
                    have C := HCqa.out wc1 HBwc1.out
                    go_wp2_with fail
                    refine C.mono ?_
                    rintro e wc2 ⟨rfl, bz⟩
                    clear C
                    have HBwc2 : Hid (Below w.heap.size w wc2) := HBwc1.out.trans (bz.mono HBwc1.out.size)
                    clear bz
                    have C := HClb.out wc2 HBwc2.out
                    go_wp2_with fail
                    refine C.mono ?_
                    rintro e wc3 ⟨rfl, bz⟩
                    clear C
                    have HBwc3 : Hid (Below w.heap.size w wc3) := HBwc2.out.trans (bz.mono HBwc2.out.size)
                    clear bz
                    go_wp2
                    exact HK.out _ _ _ _ _ _ _ _ _ _ _ _ _ _ _ HBwc3.out
                  | false =>
                    obtain rfl : R2 = false := HR2.out.symm
                    have C := HCla2.out x1 HBx1.out
                    go_wp2_with fail
                    refine C.mono ?_
                    rintro e wc1 ⟨rfl, bz⟩
                    clear C
                    have HBwc1 : Hid (Below w.heap.size w wc1) := HBx1.out.trans (bz.mono HBx1.out.size)
                    clear bz
                    have C := HCqa.out wc1 HBwc1.out
                    go_wp2_with fail
                    refine C.mono ?_
                    rintro e wc2 ⟨rfl, bz⟩
                    clear C
                    have HBwc2 : Hid (Below w.heap.size w wc2) := HBwc1.out.trans (bz.mono HBwc1.out.size)
                    clear bz
                    have C := HClb.out wc2 HBwc2.out
                    go_wp2_with fail
                    refine C.mono ?_
                    rintro e wc3 ⟨rfl, bz⟩
                    clear C
                    have HBwc3 : Hid (Below w.heap.size w wc3) := HBwc2.out.trans (bz.mono HBwc2.out.size)
                    clear bz
                    go_wp2
                    exact HK.out _ _ _ _ _ _ _ _ _ _ _ _ _ _ _ HBwc3.out
                | false =>
                  obtain rfl : R2 = false := HR2.out.symm
                  have C := HCla2.out x1 HBx1.out
                  go_wp2_with fail
                  refine C.mono ?_
                  rintro e wc1 ⟨rfl, bz⟩
                  clear C
                  have HBwc1 : Hid (Below w.heap.size w wc1) := HBx1.out.trans (bz.mono HBx1.out.size)
                  clear bz
                  have C := HCqa.out wc1 HBwc1.out
                  go_wp2_with fail
                  refine C.mono ?_
                  rintro e wc2 ⟨rfl, bz⟩
                  clear C
                  have HBwc2 : Hid (Below w.heap.size w wc2) := HBwc1.out.trans (bz.mono HBwc1.out.size)
                  clear bz
                  go_wp2
                  exact HK.out _ _ _ _ _ _ _ _ _ _ _ _ _ _ _ HBwc2.out
            | false =>
              obtain rfl : R2 = false := HR2.out.symm
              have C := HCla2.out x1 HBx1.out
              go_wp2_with fail
              refine C.mono ?_
              rintro e wc1 ⟨rfl, bz⟩
              clear C
              have HBwc1 : Hid (Below w.heap.size w wc1) := HBx1.out.trans (bz.mono HBx1.out.size)
              clear bz
              go_wp2
              exact HK.out _ _ _ _ _ _ _ _ _ _ _ _ _ _ _ HBwc1.out
          · rintro ⟨v0, v1, v2, v3, v4, v5, v6, v7, v8, v9, v10, v11, v12, v13⟩ x2 hb
            have HBx2 : Hid (Below w.heap.size w x2) := hb
            clear hb
            simp only [Act.put, List.getElem_toArray, List.getElem_cons_zero, List.getElem_cons_succ, List.setIfInBounds_toArray, List.set_cons_zero, List.set_cons_succ]
            clear HR2 HBx1
            cases R2 with
            | true =>
              refine wp_cond_true rfl ?_
              go_wp2
              try rw [Exit.noGoto_ret]
              go_ret
              exact ⟨by first | rfl | simp, HBx2.out⟩
            | false =>
              refine wp_cond_false rfl ?_
              refine seq_k (ι := Value × Value × Value × Value × Value × Value) (puts := fun v a => (((((((a.put (some 47) v.1).put (some 48) v.2.1).put (some 49) v.2.2.1).put (some 50) v.2.2.2.1).put (some 51) v.2.2.2.2.1).put (some 52) v.2.2.2.2.2).put (some 46) (.bool R3))) (G := fun _ V => Below w.heap.size w V) ?_ ?_
              · intro K Q' hk
                have hk2 := fun (v0 v1 v2 v3 v4 v5 : Value) (V : World) (hb : Below w.heap.size w V) => hk (v0, v1, v2, v3, v4, v5) V hb
                simp only [Act.put, List.getElem_toArray, List.getElem_cons_zero, List.getElem_cons_succ, List.setIfInBounds_toArray, List.set_cons_zero, List.set_cons_succ] at hk2
                have HK : Hid _ := hk2
                clear hk hk2
                cases ea_10 with
                | true =>
                  cases eb_11 with
                  | true =>
                    obtain rfl : R3 = true := HR3.out.symm
                    go_wp2
                    exact HK.out _ _ _ _ _ _ _ HBx2.out
                  | false =>
                    obtain rfl : R3 = false := HR3.out.symm
                    go_wp2
                    exact HK.out _ _ _ _ _ _ _ HBx2.out
                | false =>
                  obtain rfl : R3 = false := HR3.out.symm
                  go_wp2
                  exact HK.out _ _ _ _ _ _ _ HBx2.out
              · rintro ⟨v0, v1, v2, v3, v4, v5⟩ x3 hb
                have HBx3 : Hid (Below w.heap.size w x3) := hb
                clear hb
                simp only [Act.put, List.getElem_toArray, List.getElem_cons_zero, List.getElem_cons_succ, List.setIfInBounds_toArray, List.set_cons_zero, List.set_cons_succ]
                clear HR3 HBx2
                cases R3 with
                | true =>
                  refine wp_cond_true rfl ?_
                  go_wp2
                  try rw [Exit.noGoto_ret]
                  go_ret
                  exact ⟨by first | rfl | simp, HBx3.out⟩
                | false =>
                  refine wp_cond_false rfl ?_
                  refine seq_k (ι := Value × Value × Value × Value × Value × Value × Value × Value × Value × Value) (puts := fun v a => (((((((((((a.put (some 54) v.1).put (some 55) v.2.1).put (some 56) v.2.2.1).put (some 57) v.2.2.2.1).put (some 58) v.2.2.2.2.1).put (some 59) v.2.2.2.2.2.1).put (some 60) v.2.2.2.2.2.2.1).put (some 61) v.2.2.2.2.2.2.2.1).put (some 62) v.2.2.2.2.2.2.2.2.1).put (some 63) v.2.2.2.2.2.2.2.2.2).put (some 53) (.bool R4))) (G := fun _ V => Below w.heap.size w V) ?_ ?_
                  · intro K Q' hk
                    have hk2 := fun (v0 v1 v2 v3 v4 v5 v6 v7 v8 v9 : Value) (V : World) (hb : Below w.heap.size w V) => hk (v0, v1, v2, v3, v4, v5, v6, v7, v8, v9) V hb
                    simp only [Act.put, List.getElem_toArray, List.getElem_cons_zero, List.getElem_cons_succ, List.setIfInBounds_toArray, List.set_cons_zero, List.set_cons_succ] at hk2
                    have HK : Hid _ := hk2
                    clear hk hk2
                    cases ea_10 with
                    | true =>
                      cases eb_12 with
                      | true =>
                        cases eb2_10 with
                        | true =>
                          obtain rfl : R4 = true := HR4.out.symm
                          go_wp2
                          exact HK.out _ _ _ _ _ _ _ _ _ _ _ HBx3.out
                        | false =>
                          obtain rfl : R4 = false := HR4.out.symm
                          go_wp2
                          exact HK.out _ _ _ _ _ _ _ _ _ _ _ HBx3.out
                      | false =>
                        obtain rfl : R4 = false := HR4.out.symm
                        go_wp2
                        exact HK.out _ _ _ _ _ _ _ _ _ _ _ HBx3.out
                    | false =>
                      obtain rfl : R4 = false := HR4.out.symm
                      go_wp2
                      exact HK.out _ _ _ _ _ _ _ _ _ _ _ HBx3.out
                  · rintro ⟨v0, v1, v2, v3, v4, v5, v6, v7, v8, v9⟩ x4 hb
                    have HBx4 : Hid (Below w.heap.size w x4) := hb
                    clear hb
                    simp only [Act.put, List.getElem_toArray, List.getElem_cons_zero, List.getElem_cons_succ, List.setIfInBounds_toArray, List.set_cons_zero, List.set_cons_succ]
                    clear HR4 HBx3
                    cases R4 with
                    | true =>
                      refine wp_cond_true rfl ?_
                      go_wp2
                      try rw [Exit.noGoto_ret]
                      go_ret
                      exact ⟨by first | rfl | simp, HBx4.out⟩
                    | false =>
                      refine wp_cond_false rfl ?_
                      refine seq_k (ι := Value × Value × Value × Value × Value × Value × Value × Value × Value × Value) (puts := fun v a => (((((((((((a.put (some 65) v.1).put (some 66) v.2.1).put (some 67) v.2.2.1).put (some 68) v.2.2.2.1).put (some 69) v.2.2.2.2.1).put (some 70) v.2.2.2.2.2.1).put (some 71) v.2.2.2.2.2.2.1).put (some 72) v.2.2.2.2.2.2.2.1).put (some 73) v.2.2.2.2.2.2.2.2.1).put (some 74) v.2.2.2.2.2.2.2.2.2).put (some 64) (.bool R5))) (G := fun _ V => Below w.heap.size w V) ?_ ?_
                      · intro K Q' hk
                        have hk2 := fun (v0 v1 v2 v3 v4 v5 v6 v7 v8 v9 : Value) (V : World) (hb : Below w.heap.size w V) => hk (v0, v1, v2, v3, v4, v5, v6, v7, v8, v9) V hb
                        simp only [Act.put, List.getElem_toArray, List.getElem_cons_zero, List.getElem_cons_succ, List.setIfInBounds_toArray, List.set_cons_zero, List.set_cons_succ] at hk2
                        have HK : Hid _ := hk2
                        clear hk hk2
                        cases ea2_10 with
                        | true =>
                          cases ea_12 with
                          | true =>
                            cases eb_10 with
                            | true =>
                              obtain rfl : R5 = true := HR5.out.symm
                              go_wp2
                              exact HK.out _ _ _ _ _ _ _ _ _ _ _ HBx4.out
                            | false =>
                              obtain rfl : R5 = false := HR5.out.symm
                              go_wp2
                              exact HK.out _ _ _ _ _ _ _ _ _ _ _ HBx4.out
                          | false =>
                            obtain rfl : R5 = false := HR5.out.symm
                            go_wp2
                            exact HK.out _ _ _ _ _ _ _ _ _ _ _ HBx4.out
                        | false =>
                          obtain rfl : R5 = false := HR5.out.symm
                          go_wp2
                          exact HK.out _ _ _ _ _ _ _ _ _ _ _ HBx4.out
                      · rintro ⟨v0, v1, v2, v3, v4, v5, v6, v7, v8, v9⟩ x5 hb
                        have HBx5 : Hid (Below w.heap.size w x5) := hb
                        clear hb
                        simp only [Act.put, List.getElem_toArray, List.getElem_cons_zero, List.getElem_cons_succ, List.setIfInBounds_toArray, List.set_cons_zero, List.set_cons_succ]
                        clear HR5 HBx4
                        cases R5 with
                        | true =>
                          refine wp_cond_true rfl ?_
                          go_wp2
                          try rw [Exit.noGoto_ret]
                          go_ret
                          exact ⟨by first | rfl | simp, HBx5.out⟩
                        | false =>
                          refine wp_cond_false rfl ?_
                          refine seq_k (ι := Value × Value × Value × Value × Value × Value × Value × Value × Value × Value × Value × Value × Value × Value × Value × Value × Value × Value) (puts := fun v a => (((((((((((((((((((a.put (some 76) v.1).put (some 77) v.2.1).put (some 78) v.2.2.1).put (some 79) v.2.2.2.1).put (some 80) v.2.2.2.2.1).put (some 81) v.2.2.2.2.2.1).put (some 82) v.2.2.2.2.2.2.1).put (some 83) v.2.2.2.2.2.2.2.1).put (some 84) v.2.2.2.2.2.2.2.2.1).put (some 85) v.2.2.2.2.2.2.2.2.2.1).put (some 86) v.2.2.2.2.2.2.2.2.2.2.1).put (some 87) v.2.2.2.2.2.2.2.2.2.2.2.1).put (some 88) v.2.2.2.2.2.2.2.2.2.2.2.2.1).put (some 89) v.2.2.2.2.2.2.2.2.2.2.2.2.2.1).put (some 90) v.2.2.2.2.2.2.2.2.2.2.2.2.2.2.1).put (some 91) v.2.2.2.2.2.2.2.2.2.2.2.2.2.2.2.1).put (some 92) v.2.2.2.2.2.2.2.2.2.2.2.2.2.2.2.2.1).put (some 93) v.2.2.2.2.2.2.2.2.2.2.2.2.2.2.2.2.2).put (some 75) (.bool R6))) (G := fun _ V => Below w.heap.size w V) ?_ ?_
                          · intro K Q' hk
                            have hk2 := fun (v0 v1 v2 v3 v4 v5 v6 v7 v8 v9 v10 v11 v12 v13 v14 v15 v16 v17 : Value) (V : World) (hb : Below w.heap.size w V) => hk (v0, v1, v2, v3, v4, v5, v6, v7, v8, v9, v10, v11, v12, v13, v14, v15, v16, v17) V hb
                            simp only [Act.put, List.getElem_toArray, List.getElem_cons_zero, List.getElem_cons_succ, List.setIfInBounds_toArray, List.set_cons_zero, List.set_cons_succ] at hk2
                            have HK : Hid _ := hk2
                            clear hk hk2
                            cases ea_16 with
                            | true =>
                              cases eb_16 with
                              | true =>
                                obtain rfl : R6 = true := HR6.out.symm
                                go_wp2
                                exact HK.out _ _ _ _ _ _ _ _ _ _ _ _ _ _ _ _ _ _ _ HBx5.out
                              | false =>
                                cases lb with
                                | true =>
                                  obtain rfl : R6 = true := HR6.out.symm
                                  have C := HClb.out x5 HBx5.out
                                  go_wp2_with fail
                                  refine C.mono ?_
                                  rintro e wc1 ⟨rfl, bz⟩
                                  clear C
                                  have HBwc1 : Hid (Below w.heap.size w wc1) := HBx5.out.trans (bz.mono HBx5.out.size)
                                  clear bz
                                  go_wp2
                                  exact HK.out _ _ _ _ _ _ _ _ _ _ _ _ _ _ _ _ _ _ _ HBwc1.out
                                | false =>
                                  obtain rfl : R6 = false := HR6.out.symm
                                  have C := HClb.out x5 HBx5.out
                                  go_wp2_with fail
                                  refine C.mono ?_
                                  rintro e wc1 ⟨rfl, bz⟩
                                  clear C
                                  have HBwc1 : Hid (Below w.heap.size w wc1) := HBx5.out.trans (bz.mono HBx5.out.size)
                                  clear bz
                                  go_wp2
                                  exact HK.out _ _ _ _ _ _ _ _ _ _ _ _ _ _ _ _ _ _ _ HBwc1.out
                            | false =>
                              cases la with
                              | true =>
                                cases eb_16 with
                                | true =>
                                  obtain rfl : R6 = true := HR6.out.symm
                                  have C := HCla.out x5 HBx5.out
                                  go_wp2_with fail
                                  refine C.mono ?_
                                  rintro e wc1 ⟨rfl, bz⟩
                                  clear C
                                  have HBwc1 : Hid (Below w.heap.size w wc1) := HBx5.out.trans (bz.mono HBx5.out.size)
                                  clear bz
                                  go_wp2
                                  exact HK.out _ _ _ _ _ _ _ _ _ _ _ _ _ _ _ _ _ _ _ HBwc1.out
                                | false =>
                                  obtain rfl : R6 = false := HR6.out.symm
                                  have C := HCla.out x5 HBx5.out
                                  go_wp2_with fail
                                  refine C.mono ?_
                                  rintro e wc1 ⟨rfl, bz⟩
                                  clear C
                                  have HBwc1 : Hid (Below w.heap.size w wc1) := HBx5.out.trans (bz.mono HBx5.out.size)
                                  clear bz
                                  go_wp2
                                  exact HK.out _ _ _ _ _ _ _ _ _ _ _ _ _ _ _ _ _ _ _ HBwc1.out
                              | false =>
                                obtain rfl : R6 = false := HR6.out.symm
                                have C := HCla.out x5 HBx5.out
                                go_wp2_with fail
                                refine C.mono ?_
                                rintro e wc1 ⟨rfl, bz⟩
                                clear C
                                have HBwc1 : Hid (Below w.heap.size w wc1) := HBx5.out.trans (bz.mono HBx5.out.size)
                                clear bz
                                go_wp2
                                exact HK.out _ _ _ _ _ _ _ _ _ _ _ _ _ _ _ _ _ _ _ HBwc1.out
                          · rintro ⟨v0, v1, v2, v3, v4, v5, v6, v7, v8, v9, v10, v11, v12, v13, v14, v15, v16, v17⟩ x6 hb
                            have HBx6 : Hid (Below w.heap.size w x6) := hb
                            clear hb
                            simp only [Act.put, List.getElem_toArray, List.getElem_cons_zero, List.getElem_cons_succ, List.setIfInBounds_toArray, List.set_cons_zero, List.set_cons_succ]
                            clear HR6 HBx5
                            cases R6 with
                            | true =>
                              refine wp_cond_true rfl ?_
                              go_wp2
                              try rw [Exit.noGoto_ret]
                              go_ret
                              exact ⟨by first | rfl | simp, HBx6.out⟩
                            | false =>
                              refine wp_cond_false rfl ?_
                              refine seq_k (ι := Value × Value × Value × Value × Value × Value × Value × Value × Value × Value × Value × Value × Value × Value) (puts := fun v a => (((((((((((((((a.put (some 95) v.1).put (some 96) v.2.1).put (some 97) v.2.2.1).put (some 98) v.2.2.2.1).put (some 99) v.2.2.2.2.1).put (some 100) v.2.2.2.2.2.1).put (some 101) v.2.2.2.2.2.2.1).put (some 102) v.2.2.2.2.2.2.2.1).put (some 103) v.2.2.2.2.2.2.2.2.1).put (some 104) v.2.2.2.2.2.2.2.2.2.1).put (some 105) v.2.2.2.2.2.2.2.2.2.2.1).put (some 106) v.2.2.2.2.2.2.2.2.2.2.2.1).put (some 107) v.2.2.2.2.2.2.2.2.2.2.2.2.1).put (some 108) v.2.2.2.2.2.2.2.2.2.2.2.2.2).put (some 94) (.bool R7))) (G := fun _ V => Below w.heap.size w V) ?_ ?_
                              · intro K Q' hk
                                have hk2 := fun (v0 v1 v2 v3 v4 v5 v6 v7 v8 v9 v10 v11 v12 v13 : Value) (V : World) (hb : Below w.heap.size w V) => hk (v0, v1, v2, v3, v4, v5, v6, v7, v8, v9, v10, v11, v12, v13) V hb
                                simp only [Act.put, List.getElem_toArray, List.getElem_cons_zero, List.getElem_cons_succ, List.setIfInBounds_toArray, List.set_cons_zero, List.set_cons_succ] at hk2
                                have HK : Hid _ := hk2
                                clear hk hk2
                                cases ea_16 with
                                | true =>
                                  cases eb_14 with
                                  | true =>
                                    cases eb2_16 with
                                    | true =>
                                      obtain rfl : R7 = true := HR7.out.symm
                                      go_wp2
                                      exact HK.out _ _ _ _ _ _ _ _ _ _ _ _ _ _ _ HBx6.out
                                    | false =>
                                      obtain rfl : R7 = false := HR7.out.symm
                                      go_wp2
                                      exact HK.out _ _ _ _ _ _ _ _ _ _ _ _ _ _ _ HBx6.out
                                  | false =>
                                    cases qb with
                                    | true =>
                                      cases eb2_16 with
                                      | true =>
                                        obtain rfl : R7 = true := HR7.out.symm
                                        have C := HCqb.out x6 HBx6.out
                                        go_wp2_with fail
                                        refine C.mono ?_
                                        rintro e wc1 ⟨rfl, bz⟩
                                        clear C
                                        have HBwc1 : Hid (Below w.heap.size w wc1) := HBx6.out.trans (bz.mono HBx6.out.size)
                                        clear bz
                                        go_wp2
                                        exact HK.out _ _ _ _ _ _ _ _ _ _ _ _ _ _ _ HBwc1.out
                                      | false =>
                                        obtain rfl : R7 = false := HR7.out.symm
                                        have C := HCqb.out x6 HBx6.out
                                        go_wp2_with fail
                                        refine C.mono ?_
                                        rintro e wc1 ⟨rfl, bz⟩
                                        clear C
                                        have HBwc1 : Hid (Below w.heap.size w wc1) := HBx6.out.trans (bz.mono HBx6.out.size)
                                        clear bz
                                        go_wp2
                                        exact HK.out _ _ _ _ _ _ _ _ _ _ _ _ _ _ _ HBwc1.out
                                    | false =>
                                      obtain rfl : R7 = false := HR7.out.symm
                                      have C := HCqb.out x6 HBx6.out
                                      go_wp2_with fail
                                      refine C.mono ?_
                                      rintro e wc1 ⟨rfl, bz⟩
                                      clear C
                                      have HBwc1 : Hid (Below w.heap.size w wc1) := HBx6.out.trans (bz.mono HBx6.out.size)
                                      clear bz
                                      go_wp2
                                      exact HK.out _ _ _ _ _ _ _ _ _ _ _ _ _ _ _ HBwc1.out
                                | false =>
                                  obtain rfl : R7 = false := HR7.out.symm
                                  go_wp2
                                  exact HK.out _ _ _ _ _ _ _ _ _ _ _ _ _ _ _ HBx6.out
                              · rintro ⟨v0, v1, v2, v3, v4, v5, v6, v7, v8, v9, v10, v11, v12, v13⟩ x7 hb
                                have HBx7 : Hid (Below w.heap.size w x7) := hb
                                clear hb
                                simp only [Act.put, List.getElem_toArray, List.getElem_cons_zero, List.getElem_cons_succ, List.setIfInBounds_toArray, List.set_cons_zero, List.set_cons_succ]
                                clear HR7 HBx6
                                cases R7 with
                                | true =>
                                  refine wp_cond_true rfl ?_
                                  go_wp2
                                  try rw [Exit.noGoto_ret]
                                  go_ret
                                  exact ⟨by first | rfl | simp, HBx7.out⟩
                                | false =>
                                  refine wp_cond_false rfl ?_
                                  refine seq_k (ι := Value × Value × Value × Value × Value × Value × Value × Value × Value × Value × Value × Value × Value × Value) (puts := fun v a => (((((((((((((((a.put (some 110) v.1).put (some 111) v.2.1).put (some 112) v.2.2.1).put (some 113) v.2.2.2.1).put (some 114) v.2.2.2.2.1).put (some 115) v.2.2.2.2.2.1).put (some 116) v.2.2.2.2.2.2.1).put (some 117) v.2.2.2.2.2.2.2.1).put (some 118) v.2.2.2.2.2.2.2.2.1).put (some 119) v.2.2.2.2.2.2.2.2.2.1).put (some 120) v.2.2.2.2.2.2.2.2.2.2.1).put (some 121) v.2.2.2.2.2.2.2.2.2.2.2.1).put (some 122) v.2.2.2.2.2.2.2.2.2.2.2.2.1).put (some 123) v.2.2.2.2.2.2.2.2.2.2.2.2.2).put (some 109) (.bool R8))) (G := fun _ V => Below w.heap.size w V) ?_ ?_
                                  · intro K Q' hk
                                    have hk2 := fun (v0 v1 v2 v3 v4 v5 v6 v7 v8 v9 v10 v11 v12 v13 : Value) (V : World) (hb : Below w.heap.size w V) => hk (v0, v1, v2, v3, v4, v5, v6, v7, v8, v9, v10, v11, v12, v13) V hb
                                    simp only [Act.put, List.getElem_toArray, List.getElem_cons_zero, List.getElem_cons_succ, List.setIfInBounds_toArray, List.set_cons_zero, List.set_cons_succ] at hk2
                                    have HK : Hid _ := hk2
                                    clear hk hk2
                                    cases ea2_16 with
                                    | true =>
                                      cases ea_14 with
                                      | true =>
                                        cases eb_16 with
                                        | true =>
                                          obtain rfl : R8 = true := HR8.out.symm
                                          go_wp2
                                          exact HK.out _ _ _ _ _ _ _ _ _ _ _ _ _ _ _ HBx7.out
                                        | false =>
                                          obtain rfl : R8 = false := HR8.out.symm
                                          go_wp2
                                          exact HK.out _ _ _ _ _ _ _ _ _ _ _ _ _ _ _ HBx7.out
                                      | false =>
                                        cases qa with
                                        | true =>
                                          cases eb_16 with
                                          | true =>
                                            obtain rfl : R8 = true := HR8.out.symm
                                            have C := HCqa.out x7 HBx7.out
                                            go_wp2_with fail
                                            refine C.mono ?_
                                            rintro e wc1 ⟨rfl, bz⟩
                                            clear C
                                            have HBwc1 : Hid (Below w.heap.size w wc1) := HBx7.out.trans (bz.mono HBx7.out.size)
                                            clear bz
                                            go_wp2
                                            exact HK.out _ _ _ _ _ _ _ _ _ _ _ _ _ _ _ HBwc1.out
                                          | false =>
                                            obtain rfl : R8 = false := HR8.out.symm
                                            have C := HCqa.out x7 HBx7.out
                                            go_wp2_with fail
                                            refine C.mono ?_
                                            rintro e wc1 ⟨rfl, bz⟩
                                            clear C
                                            have HBwc1 : Hid (Below w.heap.size w wc1) := HBx7.out.trans (bz.mono HBx7.out.size)
                                            clear bz
                                            go_wp2
                                            exact HK.out _ _ _ _ _ _ _ _ _ _ _ _ _ _ _ HBwc1.out
                                        | false =>
                                          obtain rfl : R8 = false := HR8.out.symm
                                          have C := HCqa.out x7 HBx7.out
                                          go_wp2_with fail
                                          refine C.mono ?_
                                          rintro e wc1 ⟨rfl, bz⟩
                                          clear C
                                          have HBwc1 : Hid (Below w.heap.size w wc1) := HBx7.out.trans (bz.mono HBx7.out.size)
                                          clear bz
                                          go_wp2
                                          exact HK.out _ _ _ _ _ _ _ _ _ _ _ _ _ _ _ HBwc1.out
                                    | false =>
                                      obtain rfl : R8 = false := HR8.out.symm
                                      go_wp2
                                      exact HK.out _ _ _ _ _ _ _ _ _ _ _ _ _ _ _ HBx7.out
                                  · rintro ⟨v0, v1, v2, v3, v4, v5, v6, v7, v8, v9, v10, v11, v12, v13⟩ x8 hb
                                    have HBx8 : Hid (Below w.heap.size w x8) := hb
                                    clear hb
                                    simp only [Act.put, List.getElem_toArray, List.getElem_cons_zero, List.getElem_cons_succ, List.setIfInBounds_toArray, List.set_cons_zero, List.set_cons_succ]
                                    clear HR8 HBx7
                                    cases R8 with
                                    | true =>
                                      refine wp_cond_true rfl ?_
                                      go_wp2
                                      try rw [Exit.noGoto_ret]
                                      go_ret
                                      exact ⟨by first | rfl | simp, HBx8.out⟩
                                    | false =>
                                      refine wp_cond_false rfl ?_
                                      refine seq_k (ι := Value × Value × Value × Value × Value × Value) (puts := fun v a => (((((((a.put (some 125) v.1).put (some 126) v.2.1).put (some 127) v.2.2.1).put (some 128) v.2.2.2.1).put (some 129) v.2.2.2.2.1).put (some 130) v.2.2.2.2.2).put (some 124) (.bool R9))) (G := fun _ V => Below w.heap.size w V) ?_ ?_
                                      · intro K Q' hk
                                        have hk2 := fun (v0 v1 v2 v3 v4 v5 : Value) (V : World) (hb : Below w.heap.size w V) => hk (v0, v1, v2, v3, v4, v5) V hb
                                        simp only [Act.put, List.getElem_toArray, List.getElem_cons_zero, List.getElem_cons_succ, List.setIfInBounds_toArray, List.set_cons_zero, List.set_cons_succ] at hk2
                                        have HK : Hid _ := hk2
                                        clear hk hk2
                                        cases ea_17 with
                                        | true =>
                                          cases eb_17 with
                                          | true =>
                                            obtain rfl : R9 = true := HR9.out.symm
                                            go_wp2
                                            exact HK.out _ _ _ _ _ _ _ HBx8.out
                                          | false =>
                                            obtain rfl : R9 = false := HR9.out.symm
                                            go_wp2
                                            exact HK.out _ _ _ _ _ _ _ HBx8.out
                                        | false =>
                                          obtain rfl : R9 = false := HR9.out.symm
                                          go_wp2
                                          exact HK.out _ _ _ _ _ _ _ HBx8.out
                                      · rintro ⟨v0, v1, v2, v3, v4, v5⟩ x9 hb
                                        have HBx9 : Hid (Below w.heap.size w x9) := hb
                                        clear hb
                                        simp only [Act.put, List.getElem_toArray, List.getElem_cons_zero, List.getElem_cons_succ, List.setIfInBounds_toArray, List.set_cons_zero, List.set_cons_succ]
                                        clear HR9 HBx8
                                        cases R9 with
                                        | true =>
                                          refine wp_cond_true rfl ?_
                                          go_wp2
                                          try rw [Exit.noGoto_ret]
                                          go_ret
                                          exact ⟨by first | rfl | simp, HBx9.out⟩
                                        | false =>
                                          refine wp_cond_false rfl ?_
                                          refine seq_k (ι := Value × Value × Value × Value × Value × Value × Value × Value × Value × Value × Value) (puts := fun v a => ((((((((((((a.put (some 132) v.1).put (some 133) v.2.1).put (some 134) v.2.2.1).put (some 135) v.2.2.2.1).put (some 136) v.2.2.2.2.1).put (some 137) v.2.2.2.2.2.1).put (some 138) v.2.2.2.2.2.2.1).put (some 139) v.2.2.2.2.2.2.2.1).put (some 140) v.2.2.2.2.2.2.2.2.1).put (some 141) v.2.2.2.2.2.2.2.2.2.1).put (some 142) v.2.2.2.2.2.2.2.2.2.2).put (some 131) (.bool R10))) (G := fun _ V => Below w.heap.size w V) ?_ ?_
                                          · intro K Q' hk
                                            have hk2 := fun (v0 v1 v2 v3 v4 v5 v6 v7 v8 v9 v10 : Value) (V : World) (hb : Below w.heap.size w V) => hk (v0, v1, v2, v3, v4, v5, v6, v7, v8, v9, v10) V hb
                                            simp only [Act.put, List.getElem_toArray, List.getElem_cons_zero, List.getElem_cons_succ, List.setIfInBounds_toArray, List.set_cons_zero, List.set_cons_succ] at hk2
                                            have HK : Hid _ := hk2
                                            clear hk hk2
                                            cases la with
                                            | true =>
                                              cases eb_18 with
                                              | true =>
                                                obtain rfl : R10 = true := HR10.out.symm
                                                have C := HCla.out x9 HBx9.out
                                                go_wp2_with fail
                                                refine C.mono ?_
                                                rintro e wc1 ⟨rfl, bz⟩
                                                clear C
                                                have HBwc1 : Hid (Below w.heap.size w wc1) := HBx9.out.trans (bz.mono HBx9.out.size)
                                                clear bz
                                                go_wp2
                                                exact HK.out _ _ _ _ _ _ _ _ _ _ _ _ HBwc1.out
                                              | false =>
                                                obtain rfl : R10 = false := HR10.out.symm
                                                have C := HCla.out x9 HBx9.out
                                                go_wp2_with fail
                                                refine C.mono ?_
                                                rintro e wc1 ⟨rfl, bz⟩
                                                clear C
                                                have HBwc1 : Hid (Below w.heap.size w wc1) := HBx9.out.trans (bz.mono HBx9.out.size)
                                                clear bz
                                                go_wp2
                                                exact HK.out _ _ _ _ _ _ _ _ _ _ _ _ HBwc1.out
                                            | false =>
                                              cases on3_a with
                                              | true =>
                                                cases eb_18 with
                                                | true =>
                                                  obtain rfl : R10 = true := HR10.out.symm
                                                  have C := HCla.out x9 HBx9.out
                                                  go_wp2_with fail
                                                  refine C.mono ?_
                                                  rintro e wc1 ⟨rfl, bz⟩
                                                  clear C
                                                  have HBwc1 : Hid (Below w.heap.size w wc1) := HBx9.out.trans (bz.mono HBx9.out.size)
                                                  clear bz
                                                  have C := HOn3_a.out wc1
                                                  go_wp2_with fail
                                                  refine C.mono ?_
                                                  rintro e wz ⟨rfl, hw⟩
                                                  rw [hw]
                                                  clear C hw wz
                                                  have HBwc2 : Hid (Below w.heap.size w (wc1.alloc (.cells #[.string ⟨#[78, 117, 109, 101, 114, 105, 99]⟩, .string ⟨#[75, 97, 116, 97, 107, 97, 110, 97]⟩, .string ⟨#[74, 111, 105, 110, 101, 114]⟩] 9))) := HBwc1.out.alloc HBwc1.out.size _
                                                  generalize wc1.alloc (.cells #[.string ⟨#[78, 117, 109, 101, 114, 105, 99]⟩, .string ⟨#[75, 97, 116, 97, 107, 97, 110, 97]⟩, .string ⟨#[74, 111, 105, 110, 101, 114]⟩] 9) = wc2 at *
                                                  go_wp2
                                                  exact HK.out _ _ _ _ _ _ _ _ _ _ _ _ HBwc2.out
                                                | false =>
                                                  obtain rfl : R10 = false := HR10.out.symm
                                                  have C := HCla.out x9 HBx9.out
                                                  go_wp2_with fail
                                                  refine C.mono ?_
                                                  rintro e wc1 ⟨rfl, bz⟩
                                                  clear C
                                                  have HBwc1 : Hid (Below w.heap.size w wc1) := HBx9.out.trans (bz.mono HBx9.out.size)
                                                  clear bz
                                                  have C := HOn3_a.out wc1
                                                  go_wp2_with fail
                                                  refine C.mono ?_
                                                  rintro e wz ⟨rfl, hw⟩
                                                  rw [hw]
                                                  clear C hw wz
                                                  have HBwc2 : Hid (Below w.heap.size w (wc1.alloc (.cells #[.string ⟨#[78, 117, 109, 101, 114, 105, 99]⟩, .string ⟨#[75, 97, 116, 97, 107, 97, 110, 97]⟩, .string ⟨#[74, 111, 105, 110, 101, 114]⟩] 9))) := HBwc1.out.alloc HBwc1.out.size _
                                                  generalize wc1.alloc (.cells #[.string ⟨#[78, 117, 109, 101, 114, 105, 99]⟩, .string ⟨#[75, 97, 116, 97, 107, 97, 110, 97]⟩, .string ⟨#[74, 111, 105, 110, 101, 114]⟩] 9) = wc2 at *
                                                  go_wp2
                                                  exact HK.out _ _ _ _ _ _ _ _ _ _ _ _ HBwc2.out
                                              | false =>
                                                obtain rfl : R10 = false := HR10.out.symm
                                                have C := HCla.out x9 HBx9.out
                                                go_wp2_with fail
                                                refine C.mono ?_
                                                rintro e wc1 ⟨rfl, bz⟩
                                                clear C
                                                have HBwc1 : Hid (Below w.heap.size w wc1) := HBx9.out.trans (bz.mono HBx9.out.size)
                                                clear bz
                                                have C := HOn3_a.out wc1
                                                go_wp2_with fail
                                                refine C.mono ?_
                                                rintro e wz ⟨rfl, hw⟩
                                                rw [hw]
                                                clear C hw wz
                                                have HBwc2 : Hid (Below w.heap.size w (wc1.alloc (.cells #[.string ⟨#[78, 117, 109, 101, 114, 105, 99]⟩, .string ⟨#[75, 97, 116, 97, 107, 97, 110, 97]⟩, .string ⟨#[74, 111, 105, 110, 101, 114]⟩] 9))) := HBwc1.out.alloc HBwc1.out.size _
                                                generalize wc1.alloc (.cells #[.string ⟨#[78, 117, 109, 101, 114, 105, 99]⟩, .string ⟨#[75, 97, 116, 97, 107, 97, 110, 97]⟩, .string ⟨#[74, 111, 105, 110, 101, 114]⟩] 9) = wc2 at *
                                                go_wp2
                                                exact HK.out _ _ _ _ _ _ _ _ _ _ _ _ HBwc2.out
                                          · rintro ⟨v0, v1, v2, v3, v4, v5, v6, v7, v8, v9, v10⟩ x10 hb
                                            have HBx10 : Hid (Below w.heap.size w x10) := hb
                                            clear hb
                                            simp only [Act.put, List.getElem_toArray, List.getElem_cons_zero, List.getElem_cons_succ, List.setIfInBounds_toArray, List.set_cons_zero, List.set_cons_succ]
                                            clear HR10 HBx9
                                            cases R10 with
                                            | true =>
                                              refine wp_cond_true rfl ?_
                                              go_wp2
                                              try rw [Exit.noGoto_ret]
                                              go_ret
                                              exact ⟨by first | rfl | simp, HBx10.out⟩
                                            | false =>
                                              refine wp_cond_false rfl ?_
                                              refine seq_k (ι := Value × Value × Value × Value × Value × Value × Value × Value × Value × Value × Value) (puts := fun v a => ((((((((((((a.put (some 144) v.1).put (some 145) v.2.1).put (some 146) v.2.2.1).put (some 147) v.2.2.2.1).put (some 148) v.2.2.2.2.1).put (some 149) v.2.2.2.2.2.1).put (some 150) v.2.2.2.2.2.2.1).put (some 151) v.2.2.2.2.2.2.2.1).put (some 152) v.2.2.2.2.2.2.2.2.1).put (some 153) v.2.2.2.2.2.2.2.2.2.1).put (some 154) v.2.2.2.2.2.2.2.2.2.2).put (some 143) (.bool R11))) (G := fun _ V => Below w.heap.size w V) ?_ ?_
                                              · intro K Q' hk
                                                have hk2 := fun (v0 v1 v2 v3 v4 v5 v6 v7 v8 v9 v10 : Value) (V : World) (hb : Below w.heap.size w V) => hk (v0, v1, v2, v3, v4, v5, v6, v7, v8, v9, v10) V hb
                                                simp only [Act.put, List.getElem_toArray, List.getElem_cons_zero, List.getElem_cons_succ, List.setIfInBounds_toArray, List.set_cons_zero, List.set_cons_succ] at hk2
                                                have HK : Hid _ := hk2
                                                clear hk hk2
                                                cases ea_18 with
                                                | true =>
                                                  cases lb with
                                                  | true =>
                                                    obtain rfl : R11 = true := HR11.out.symm
                                                    have C := HClb.out x10 HBx10.out
                                                    go_wp2_with fail
                                                    refine C.mono ?_
                                                    rintro e wc1 ⟨rfl, bz⟩
                                                    clear C
                                                    have HBwc1 : Hid (Below w.heap.size w wc1) := HBx10.out.trans (bz.mono HBx10.out.size)
                                                    clear bz
                                                    go_wp2
                                                    exact HK.out _ _ _ _ _ _ _ _ _ _ _ _ HBwc1.out
                                                  | false =>
                                                    cases on2_b with
                                                    | true =>
                                                      obtain rfl : R11 = true := HR11.out.symm
                                                      have C := HClb.out x10 HBx10.out
                                                      go_wp2_with fail
                                                      refine C.mono ?_
                                                      rintro e wc1 ⟨rfl, bz⟩
                                                      clear C
                                                      have HBwc1 : Hid (Below w.heap.size w wc1) := HBx10.out.trans (bz.mono HBx10.out.size)
                                                      clear bz
                                                      have C := HOn2_b.out wc1
                                                      go_wp2_with fail
                                                      refine C.mono ?_
                                                      rintro e wz ⟨rfl, hw⟩
                                                      rw [hw]
                                                      clear C hw wz
                                                      have HBwc2 : Hid (Below w.heap.size w (wc1.alloc (.cells #[.string ⟨#[78, 117, 109, 101, 114, 105, 99]⟩, .string ⟨#[75, 97, 116, 97, 107, 97, 110, 97]⟩] 9))) := HBwc1.out.alloc HBwc1.out.size _
                                                      generalize wc1.alloc (.cells #[.string ⟨#[78, 117, 109, 101, 114, 105, 99]⟩, .string ⟨#[75, 97, 116, 97, 107, 97, 110, 97]⟩] 9) = wc2 at *
                                                      go_wp2
                                                      exact HK.out _ _ _ _ _ _ _ _ _ _ _ _ HBwc2.out
                                                    | false =>
                                                      obtain rfl : R11 = false := HR11.out.symm
                                                      have C := HClb.out x10 HBx10.out
                                                      go_wp2_with fail
                                                      refine C.mono ?_
                                                      rintro e wc1 ⟨rfl, bz⟩
                                                      clear C
                                                      have HBwc1 : Hid (Below w.heap.size w wc1) := HBx10.out.trans (bz.mono HBx10.out.size)
                                                      clear bz
                                                      have C := HOn2_b.out wc1
                                                      go_wp2_with fail
                                                      refine C.mono ?_
                                                      rintro e wz ⟨rfl, hw⟩
                                                      rw [hw]
                                                      clear C hw wz
                                                      have HBwc2 : Hid (Below w.heap.size w (wc1.alloc (.cells #[.string ⟨#[78, 117, 109, 101, 114, 105, 99]⟩, .string ⟨#[75, 97, 116, 97, 107, 97, 110, 97]⟩] 9))) := HBwc1.out.alloc HBwc1.out.size _
                                                      generalize wc1.alloc (.cells #[.string ⟨#[78, 117, 109, 101, 114, 105, 99]⟩, .string ⟨#[75, 97, 116, 97, 107, 97, 110, 97]⟩] 9) = wc2 at *
                                                      go_wp2
                                                      exact HK.out _ _ _ _ _ _ _ _ _ _ _ _ HBwc2.out
                                                | false =>
                                                  obtain rfl : R11 = false := HR11.out.symm
                                                  go_wp2
                                                  exact HK.out _ _ _ _ _ _ _ _ _ _ _ _ HBx10.out
                                              · rintro ⟨v0, v1, v2, v3, v4, v5, v6, v7, v8, v9, v10⟩ x11 hb
                                                have HBx11 : Hid (Below w.heap.size w x11) := hb
                                                clear hb
                                                simp only [Act.put, List.getElem_toArray, List.getElem_cons_zero, List.getElem_cons_succ, List.setIfInBounds_toArray, List.set_cons_zero, List.set_cons_succ]
                                                clear HR11 HBx10
                                                cases R11 with
                                                | true =>
                                                  refine wp_cond_true rfl ?_
                                                  go_wp2
                                                  try rw [Exit.noGoto_ret]
                                                  go_ret
                                                  exact ⟨by first | rfl | simp, HBx11.out⟩
                                                | false =>
                                                  refine wp_cond_false rfl ?_
                                                  go_wp2
                                                  try rw [Exit.noGoto_ret]
                                                  go_ret
                                                  exact ⟨by first | rfl | simp, HBx11.out⟩
end Go.Proofs.YtcmhkfiijdomiaaGreatDoor.wrd
end
