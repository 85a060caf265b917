/- Texts that the proof leans on, one behind the other. -/
import Derived.Test.YtinlolmjafjhnaaGreatDoorBdPrp4
import Derived.Test.YtinlolmjafjhnaaGreatDoorBdPrp5
import Derived.Test.YtinlolmjafjhnaaGreatDoorBdNam1

section
/- props.Load: the tables in memory. -/
set_option linter.unusedVariables false
set_option linter.unusedSimpArgs false
namespace Go.Proofs.YtinlolmjafjhnaaGreatDoor.prp
open Go.RowKit Go.Maps lin

/-- Tables of a file: what is said of a code point. -/
def sF (nn : List UInt8) (l : List RL) : Int → List UInt8 := lastV nn (l.map str.trip)
def sV (nn : List UInt8) (l : List RL) : List (List UInt8) := (tall nn (l.map str.trip)).1
def iF (l : List RL) : Int → Int := lastV 0 (l.map num.trip)
def StrTab (w : World) (t o1 o2 : Nat) (nn : List UInt8) (l : List RL) : Prop := ∃ tb vb vc s, w.cell? ⟨t, o1, none⟩ = some (.pointer (some ⟨tb, 0, none⟩)) ∧ w.cell? ⟨t, o2, none⟩ = some (.slice (some ⟨vb, 0, none⟩) (sV nn l).length vc) ∧ str.TabIs w tb vb (sV nn l) s (sF nn l)
def NumTab (w : World) (t o1 o2 : Nat) (l : List RL) : Prop := ∃ tb vb vc vals s, w.cell? ⟨t, o1, none⟩ = some (.pointer (some ⟨tb, 0, none⟩)) ∧ w.cell? ⟨t, o2, none⟩ = some (.slice (some ⟨vb, 0, none⟩) vals.length vc) ∧ num.TabIs w tb vb vals s (iF l)
def LTab (w : World) (t o : Nat) (g : Int → Option (List Int)) : Prop := ∃ b, w.cell? ⟨t, o, none⟩ = some (.map (some b)) ∧ LMap w b 2000000 g
/-- In block t lie the tables. -/
structure Tabs (w : World) (t : Nat) : Prop where
 cat : StrTab w t 0 1 [67, 110] catL
 scr : StrTab w t 2 3 [90, 122, 122, 122] scrL
 clu : StrTab w t 4 5 [] cluL
 wor : StrTab w t 6 7 [] worL
 com : NumTab w t 8 9 comL
 par : LTab w t 10 (lastG partsVal decL)
 fc : LTab w t 11 (lastG (foldVal [67]) folL)
 fs : LTab w t 12 (lastG (foldVal [83]) folL)
 ff : LTab w t 13 (lastG (foldVal [70]) folL)
theorem cell_below {w w' : World} (hb : Below w.heap.size w w') {a : Addr} {v : Value} (h : w.cell? a = some v) : w'.cell? a = some v := (hb.cell (p := a) (World.block_lt_of_cell? w a h)).trans h
theorem StrTab.below {w w' : World} {t o1 o2 : Nat} {nn : List UInt8} {l : List RL} (h : StrTab w t o1 o2 nn l) (hb : Below w.heap.size w w') : StrTab w' t o1 o2 nn l := by
 obtain ⟨tb, vb, vc, s, h1, h2, h3⟩ := h
 exact ⟨tb, vb, vc, s, cell_below hb h1, cell_below hb h2, h3.below hb⟩
theorem NumTab.below {w w' : World} {t o1 o2 : Nat} {l : List RL} (h : NumTab w t o1 o2 l) (hb : Below w.heap.size w w') : NumTab w' t o1 o2 l := by
 obtain ⟨tb, vb, vc, vals, s, h1, h2, h3⟩ := h
 exact ⟨tb, vb, vc, vals, s, cell_below hb h1, cell_below hb h2, h3.below hb⟩
theorem LTab.below {w w' : World} {t o : Nat} {g : Int → Option (List Int)} (h : LTab w t o g) (hb : Below w.heap.size w w') : LTab w' t o g := by
 obtain ⟨b, h1, h2⟩ := h
 exact ⟨b, cell_below hb h1, h2.below hb⟩
theorem Tabs.below {w w' : World} {t : Nat} (h : Tabs w t) (hb : Below w.heap.size w w') : Tabs w' t :=
 ⟨h.cat.below hb, h.scr.below hb, h.clu.below hb, h.wor.below hb, h.com.below hb, h.par.below hb, h.fc.below hb, h.fs.below hb, h.ff.below hb⟩

theorem cat_tfit : ∀ x ∈ catL, str.tfitB x = true := by decide +kernel
theorem scr_tfit : ∀ x ∈ scrL, str.tfitB x = true := by decide +kernel
theorem clu_tfit : ∀ x ∈ cluL, str.tfitB x = true := by decide +kernel
theorem wor_tfit : ∀ x ∈ worL, str.tfitB x = true := by decide +kernel
theorem com_tfit : ∀ x ∈ comL, num.tfitB x = true := by decide +kernel
theorem dec_fit : ∀ x ∈ decL, fitB x = true := by decide +kernel
theorem fol_fit : ∀ x ∈ folL, fitB x = true := by decide +kernel
theorem fol_cp : ∀ x ∈ folL, ∀ y ∈ cp x 1, 0 ≤ y ∧ y ≤ 1114111 := by decide +kernel
theorem cat_n : 0 < catL.length ∧ catL.length ≤ 1000 := by decide +kernel
theorem scr_n : 0 < scrL.length ∧ scrL.length ≤ 1000 := by decide +kernel
theorem clu_n : 0 < cluL.length ∧ cluL.length ≤ 1000 := by decide +kernel
theorem wor_n : 0 < worL.length ∧ worL.length ≤ 1000 := by decide +kernel
theorem com_n : 0 < comL.length ∧ comL.length ≤ 1000 := by decide +kernel
theorem dec_n : 0 < decL.length ∧ decL.length ≤ 1000 := by decide +kernel
theorem fol_n : 0 < folL.length ∧ folL.length ≤ 1000 := by decide +kernel

set_option maxHeartbeats 8000000 in
set_option maxRecDepth 1000000 in
theorem load_any (w : World) (E : Env w) :
  Calls Tryz.prog 12 #[] w fun e w' => ∃ t, e = .returned (.pointer (some ⟨t, 0, none⟩)) ∧ Tabs w' t ∧ Below w.heap.size w w' := by
 have HE0 : Hid (Env w) := E
 clear E
 have HR_cat : Hid (∀ W, Env W → Calls Tryz.prog 26 #[.string catB] W fun e w' => ∃ v, e = .returned v ∧ View w' v (catL.map recOf) ∧ Below W.heap.size W w') := fun W EW => records_any catB catL W EW cat_parse cat_size
 have HA_cat : Hid (∀ W, Calls Tryz.prog 29 #[] W fun e w' => e = .returned (.string catB) ∧ w' = W) := fun W => cat_any W
 have HR_scr : Hid (∀ W, Env W → Calls Tryz.prog 26 #[.string scrB] W fun e w' => ∃ v, e = .returned v ∧ View w' v (scrL.map recOf) ∧ Below W.heap.size W w') := fun W EW => records_any scrB scrL W EW scr_parse scr_size
 have HA_scr : Hid (∀ W, Calls Tryz.prog 31 #[] W fun e w' => e = .returned (.string scrB) ∧ w' = W) := fun W => scr_any W
 have HR_clu : Hid (∀ W, Env W → Calls Tryz.prog 26 #[.string cluB] W fun e w' => ∃ v, e = .returned v ∧ View w' v (cluL.map recOf) ∧ Below W.heap.size W w') := fun W EW => records_any cluB cluL W EW clu_parse clu_size
 have HA_clu : Hid (∀ W, Calls Tryz.prog 32 #[] W fun e w' => e = .returned (.string cluB) ∧ w' = W) := fun W => clu_any W
 have HR_wor : Hid (∀ W, Env W → Calls Tryz.prog 26 #[.string worB] W fun e w' => ∃ v, e = .returned v ∧ View w' v (worL.map recOf) ∧ Below W.heap.size W w') := fun W EW => records_any worB worL W EW wor_parse wor_size
 have HA_wor : Hid (∀ W, Calls Tryz.prog 33 #[] W fun e w' => e = .returned (.string worB) ∧ w' = W) := fun W => wor_any W
 have HR_com : Hid (∀ W, Env W → Calls Tryz.prog 26 #[.string comB] W fun e w' => ∃ v, e = .returned v ∧ View w' v (comL.map recOf) ∧ Below W.heap.size W w') := fun W EW => records_any comB comL W EW com_parse com_size
 have HA_com : Hid (∀ W, Calls Tryz.prog 35 #[] W fun e w' => e = .returned (.string comB) ∧ w' = W) := fun W => com_any W
 have HR_dec : Hid (∀ W, Env W → Calls Tryz.prog 26 #[.string decB] W fun e w' => ∃ v, e = .returned v ∧ View w' v (decL.map recOf) ∧ Below W.heap.size W w') := fun W EW => records_any decB decL W EW dec_parse dec_size
 have HA_dec : Hid (∀ W, Calls Tryz.prog 38 #[] W fun e w' => e = .returned (.string decB) ∧ w' = W) := fun W => dec_any W
 have HR_fol : Hid (∀ W, Env W → Calls Tryz.prog 26 #[.string folB] W fun e w' => ∃ v, e = .returned v ∧ View w' v (folL.map recOf) ∧ Below W.heap.size W w') := fun W EW => records_any folB folL W EW fol_parse fol_size
 have HA_fol : Hid (∀ W, Calls Tryz.prog 27 #[] W fun e w' => e = .returned (.string folB) ∧ w' = W) := fun W => fol_any W
 generalize hrf : folB = fB at *
 clear hrf
 generalize hrcat : catB = catX at *
 clear hrcat
 generalize hrscr : scrB = scrX at *
 clear hrscr
 generalize hrclu : cluB = cluX at *
 clear hrclu
 generalize hrwor : worB = worX at *
 clear hrwor
 generalize hrcom : comB = comX at *
 clear hrcom
 generalize hrdec : decB = decX at *
 clear hrdec
 go_enter Tryz.func12, Tryz.ntmps12
 have C := HA_fol.out w
 go_wp2_with fail
 refine C.mono ?_
 rintro e w0 ⟨rfl, hw0⟩
 rw [hw0]
 clear C hw0 w0
 have C := HR_fol.out w HE0.out
 go_wp2_with fail
 refine C.mono ?_
 rintro e w1 ⟨v_fol, rfl, hv, hb⟩
 clear C
 have HV_fol : Hid (View w1 v_fol (folL.map recOf)) := hv
 have HB1 : Hid (Below w.heap.size w w1) := hb
 have HE1 : Hid (Env w1) := HE0.out.below hb
 clear hb
 obtain ⟨a_fol, c_fol, rfl, _⟩ := id hv
 clear hv
 generalize (folL.map recOf).length = n_fol at *
 have C := HA_cat.out w1
 go_wp2_with fail
 refine C.mono ?_
 rintro e w0 ⟨rfl, hw0⟩
 rw [hw0]
 clear C hw0 w0
 have C := HR_cat.out w1 HE1.out
 go_wp2_with fail
 refine C.mono ?_
 rintro e w2 ⟨v_cat, rfl, hv, hb⟩
 clear C
 have HV_cat : Hid (View w2 v_cat (catL.map recOf)) := hv
 have HB2 : Hid (Below w1.heap.size w1 w2) := hb
 have HE2 : Hid (Env w2) := HE1.out.below hb
 clear hb
 obtain ⟨a_cat, c_cat, rfl, _⟩ := id hv
 clear hv
 have C := str.table_any _ catL [67, 110] w2 HV_cat.out cat_n.1 cat_n.2 cat_tfit (by unfold str.okS; decide)
 go_wp2_with fail
 refine C.mono ?_
 rintro e w3 ⟨tb_cat, vb_cat, vc_cat, vals, s_cat, rfl, hvl, ht, hb⟩
 clear C
 have HF_cat : Hid (str.TabIs w3 tb_cat vb_cat vals s_cat (lastV [67, 110] (catL.map str.trip))) := ht
 have HB3 : Hid (Below w2.heap.size w2 w3) := hb
 have HE3 : Hid (Env w3) := HE2.out.below hb
 clear hb
 clear ht
 have HL_cat : Hid (vals = sV [67, 110] catL) := hvl
 clear hvl
 generalize hl_cat : vals = vals_cat at *
 clear hl_cat
 generalize hm_cat : vals_cat.length = m_cat at *
 have HM_cat : Hid (vals_cat.length = m_cat) := hm_cat
 clear hm_cat HV_cat
 have C := HA_scr.out w3
 go_wp2_with fail
 refine C.mono ?_
 rintro e w0 ⟨rfl, hw0⟩
 rw [hw0]
 clear C hw0 w0
 have C := HR_scr.out w3 HE3.out
 go_wp2_with fail
 refine C.mono ?_
 rintro e w4 ⟨v_scr, rfl, hv, hb⟩
 clear C
 have HV_scr : Hid (View w4 v_scr (scrL.map recOf)) := hv
 have HB4 : Hid (Below w3.heap.size w3 w4) := hb
 have HE4 : Hid (Env w4) := HE3.out.below hb
 clear hb
 obtain ⟨a_scr, c_scr, rfl, _⟩ := id hv
 clear hv
 have C := str.table_any _ scrL [90, 122, 122, 122] w4 HV_scr.out scr_n.1 scr_n.2 scr_tfit (by unfold str.okS; decide)
 go_wp2_with fail
 refine C.mono ?_
 rintro e w5 ⟨tb_scr, vb_scr, vc_scr, vals, s_scr, rfl, hvl, ht, hb⟩
 clear C
 have HF_scr : Hid (str.TabIs w5 tb_scr vb_scr vals s_scr (lastV [90, 122, 122, 122] (scrL.map str.trip))) := ht
 have HB5 : Hid (Below w4.heap.size w4 w5) := hb
 have HE5 : Hid (Env w5) := HE4.out.below hb
 clear hb
 clear ht
 have HL_scr : Hid (vals = sV [90, 122, 122, 122] scrL) := hvl
 clear hvl
 generalize hl_scr : vals = vals_scr at *
 clear hl_scr
 generalize hm_scr : vals_scr.length = m_scr at *
 have HM_scr : Hid (vals_scr.length = m_scr) := hm_scr
 clear hm_scr HV_scr
 have C := HA_clu.out w5
 go_wp2_with fail
 refine C.mono ?_
 rintro e w0 ⟨rfl, hw0⟩
 rw [hw0]
 clear C hw0 w0
 have C := HR_clu.out w5 HE5.out
 go_wp2_with fail
 refine C.mono ?_
 rintro e w6 ⟨v_clu, rfl, hv, hb⟩
 clear C
 have HV_clu : Hid (View w6 v_clu (cluL.map recOf)) := hv
 have HB6 : Hid (Below w5.heap.size w5 w6) := hb
 have HE6 : Hid (Env w6) := HE5.out.below hb
 clear hb
 obtain ⟨a_clu, c_clu, rfl, _⟩ := id hv
 clear hv
 have C := str.table_any _ cluL [] w6 HV_clu.out clu_n.1 clu_n.2 clu_tfit (by unfold str.okS; decide)
 go_wp2_with fail
 refine C.mono ?_
 rintro e w7 ⟨tb_clu, vb_clu, vc_clu, vals, s_clu, rfl, hvl, ht, hb⟩
 clear C
 have HF_clu : Hid (str.TabIs w7 tb_clu vb_clu vals s_clu (lastV [] (cluL.map str.trip))) := ht
 have HB7 : Hid (Below w6.heap.size w6 w7) := hb
 have HE7 : Hid (Env w7) := HE6.out.below hb
 clear hb
 clear ht
 have HL_clu : Hid (vals = sV [] cluL) := hvl
 clear hvl
 generalize hl_clu : vals = vals_clu at *
 clear hl_clu
 generalize hm_clu : vals_clu.length = m_clu at *
 have HM_clu : Hid (vals_clu.length = m_clu) := hm_clu
 clear hm_clu HV_clu
 have C := HA_wor.out w7
 go_wp2_with fail
 refine C.mono ?_
 rintro e w0 ⟨rfl, hw0⟩
 rw [hw0]
 clear C hw0 w0
 have C := HR_wor.out w7 HE7.out
 go_wp2_with fail
 refine C.mono ?_
 rintro e w8 ⟨v_wor, rfl, hv, hb⟩
 clear C
 have HV_wor : Hid (View w8 v_wor (worL.map recOf)) := hv
 have HB8 : Hid (Below w7.heap.size w7 w8) := hb
 have HE8 : Hid (Env w8) := HE7.out.below hb
 clear hb
 obtain ⟨a_wor, c_wor, rfl, _⟩ := id hv
 clear hv
 have C := str.table_any _ worL [] w8 HV_wor.out wor_n.1 wor_n.2 wor_tfit (by unfold str.okS; decide)
 go_wp2_with fail
 refine C.mono ?_
 rintro e w9 ⟨tb_wor, vb_wor, vc_wor, vals, s_wor, rfl, hvl, ht, hb⟩
 clear C
 have HF_wor : Hid (str.TabIs w9 tb_wor vb_wor vals s_wor (lastV [] (worL.map str.trip))) := ht
 have HB9 : Hid (Below w8.heap.size w8 w9) := hb
 have HE9 : Hid (Env w9) := HE8.out.below hb
 clear hb
 clear ht
 have HL_wor : Hid (vals = sV [] worL) := hvl
 clear hvl
 generalize hl_wor : vals = vals_wor at *
 clear hl_wor
 generalize hm_wor : vals_wor.length = m_wor at *
 have HM_wor : Hid (vals_wor.length = m_wor) := hm_wor
 clear hm_wor HV_wor
 have C := HA_com.out w9
 go_wp2_with fail
 refine C.mono ?_
 rintro e w0 ⟨rfl, hw0⟩
 rw [hw0]
 clear C hw0 w0
 have C := HR_com.out w9 HE9.out
 go_wp2_with fail
 refine C.mono ?_
 rintro e w10 ⟨v_com, rfl, hv, hb⟩
 clear C
 have HV_com : Hid (View w10 v_com (comL.map recOf)) := hv
 have HB10 : Hid (Below w9.heap.size w9 w10) := hb
 have HE10 : Hid (Env w10) := HE9.out.below hb
 clear hb
 obtain ⟨a_com, c_com, rfl, _⟩ := id hv
 clear hv
 have C := num.table_any _ comL 0 w10 HV_com.out com_n.1 com_n.2 com_tfit (by unfold okI; decide)
 go_wp2_with fail
 refine C.mono ?_
 rintro e w11 ⟨tb_com, vb_com, vc_com, vals, s_com, rfl, _, ht, hb⟩
 clear C
 have HF_com : Hid (num.TabIs w11 tb_com vb_com vals s_com (lastV 0 (comL.map num.trip))) := ht
 have HB11 : Hid (Below w10.heap.size w10 w11) := hb
 have HE11 : Hid (Env w11) := HE10.out.below hb
 clear hb
 clear ht
 generalize hl_com : vals = vals_com at *
 clear hl_com
 generalize hm_com : vals_com.length = m_com at *
 have HM_com : Hid (vals_com.length = m_com) := hm_com
 clear hm_com HV_com
 have C := HA_dec.out w11
 go_wp2_with fail
 refine C.mono ?_
 rintro e w0 ⟨rfl, hw0⟩
 rw [hw0]
 clear C hw0 w0
 have C := HR_dec.out w11 HE11.out
 go_wp2_with fail
 refine C.mono ?_
 rintro e w12 ⟨v_dec, rfl, hv, hb⟩
 clear C
 have HV_dec : Hid (View w12 v_dec (decL.map recOf)) := hv
 have HB12 : Hid (Below w11.heap.size w11 w12) := hb
 have HE12 : Hid (Env w12) := HE11.out.below hb
 clear hb
 obtain ⟨a_dec, c_dec, rfl, _⟩ := id hv
 clear hv
 have C := parts_any _ decL w12 HE12.out HV_dec.out dec_n.1 dec_n.2 dec_fit
 go_wp2_with fail
 refine C.mono ?_
 rintro e w13 ⟨b_dec, rfl, ht, hb⟩
 clear C
 have HF_dec : Hid (LMap w13 b_dec 2000000 (lastG partsVal decL)) := ht
 have HB13 : Hid (Below w12.heap.size w12 w13) := hb
 have HE13 : Hid (Env w13) := HE12.out.below hb
 clear hb
 clear ht
 clear HV_dec
 have HVfC : Hid (View w13 _ (folL.map recOf)) := HV_fol.out.below (HB2.out.trans ((HB3.out.trans ((HB4.out.trans ((HB5.out.trans ((HB6.out.trans ((HB7.out.trans ((HB8.out.trans ((HB9.out.trans ((HB10.out.trans ((HB11.out.trans ((HB12.out.trans (HB13.out.mono HB12.out.size)).mono HB11.out.size)).mono HB10.out.size)).mono HB9.out.size)).mono HB8.out.size)).mono HB7.out.size)).mono HB6.out.size)).mono HB5.out.size)).mono HB4.out.size)).mono HB3.out.size)).mono HB2.out.size)) (Nat.le_refl _)
 have C := foldings_any _ folL [67] w13 HE13.out HVfC.out fol_n.1 fol_n.2 fol_fit fol_cp
 go_wp2_with fail
 refine C.mono ?_
 rintro e w14 ⟨b_fC, rfl, ht, hb⟩
 clear C
 have HF_fC : Hid (LMap w14 b_fC 2000000 (lastG (foldVal [67]) folL)) := ht
 have HB14 : Hid (Below w13.heap.size w13 w14) := hb
 have HE14 : Hid (Env w14) := HE13.out.below hb
 clear hb
 clear ht
 clear HVfC
 have HVfS : Hid (View w14 _ (folL.map recOf)) := HV_fol.out.below (HB2.out.trans ((HB3.out.trans ((HB4.out.trans ((HB5.out.trans ((HB6.out.trans ((HB7.out.trans ((HB8.out.trans ((HB9.out.trans ((HB10.out.trans ((HB11.out.trans ((HB12.out.trans ((HB13.out.trans (HB14.out.mono HB13.out.size)).mono HB12.out.size)).mono HB11.out.size)).mono HB10.out.size)).mono HB9.out.size)).mono HB8.out.size)).mono HB7.out.size)).mono HB6.out.size)).mono HB5.out.size)).mono HB4.out.size)).mono HB3.out.size)).mono HB2.out.size)) (Nat.le_refl _)
 have C := foldings_any _ folL [83] w14 HE14.out HVfS.out fol_n.1 fol_n.2 fol_fit fol_cp
 go_wp2_with fail
 refine C.mono ?_
 rintro e w15 ⟨b_fS, rfl, ht, hb⟩
 clear C
 have HF_fS : Hid (LMap w15 b_fS 2000000 (lastG (foldVal [83]) folL)) := ht
 have HB15 : Hid (Below w14.heap.size w14 w15) := hb
 have HE15 : Hid (Env w15) := HE14.out.below hb
 clear hb
 clear ht
 clear HVfS
 have HVfF : Hid (View w15 _ (folL.map recOf)) := HV_fol.out.below (HB2.out.trans ((HB3.out.trans ((HB4.out.trans ((HB5.out.trans ((HB6.out.trans ((HB7.out.trans ((HB8.out.trans ((HB9.out.trans ((HB10.out.trans ((HB11.out.trans ((HB12.out.trans ((HB13.out.trans ((HB14.out.trans (HB15.out.mono HB14.out.size)).mono HB13.out.size)).mono HB12.out.size)).mono HB11.out.size)).mono HB10.out.size)).mono HB9.out.size)).mono HB8.out.size)).mono HB7.out.size)).mono HB6.out.size)).mono HB5.out.size)).mono HB4.out.size)).mono HB3.out.size)).mono HB2.out.size)) (Nat.le_refl _)
 have C := foldings_any _ folL [70] w15 HE15.out HVfF.out fol_n.1 fol_n.2 fol_fit fol_cp
 go_wp2_with fail
 refine C.mono ?_
 rintro e w16 ⟨b_fF, rfl, ht, hb⟩
 clear C
 have HF_fF : Hid (LMap w16 b_fF 2000000 (lastG (foldVal [70]) folL)) := ht
 have HB16 : Hid (Below w15.heap.size w15 w16) := hb
 have HE16 : Hid (Env w16) := HE15.out.below hb
 clear hb
 clear ht
 clear HVfF
 go_wp2
 go_ret
 have HBX : Hid (Below w16.heap.size w16 (w16.alloc (.cells #[.pointer (some ⟨tb_cat, 0, none⟩), .slice (some ⟨vb_cat, 0, none⟩) m_cat vc_cat, .pointer (some ⟨tb_scr, 0, none⟩), .slice (some ⟨vb_scr, 0, none⟩) m_scr vc_scr, .pointer (some ⟨tb_clu, 0, none⟩), .slice (some ⟨vb_clu, 0, none⟩) m_clu vc_clu, .pointer (some ⟨tb_wor, 0, none⟩), .slice (some ⟨vb_wor, 0, none⟩) m_wor vc_wor, .pointer (some ⟨tb_com, 0, none⟩), .slice (some ⟨vb_com, 0, none⟩) m_com vc_com, .map (some b_dec), .map (some b_fC), .map (some b_fS), .map (some b_fF)] 43))) := (Below.refl _ w16).alloc (Nat.le_refl _) _
 have hcell : ∀ (i : Nat) (v : Value), (#[.pointer (some ⟨tb_cat, 0, none⟩), .slice (some ⟨vb_cat, 0, none⟩) m_cat vc_cat, .pointer (some ⟨tb_scr, 0, none⟩), .slice (some ⟨vb_scr, 0, none⟩) m_scr vc_scr, .pointer (some ⟨tb_clu, 0, none⟩), .slice (some ⟨vb_clu, 0, none⟩) m_clu vc_clu, .pointer (some ⟨tb_wor, 0, none⟩), .slice (some ⟨vb_wor, 0, none⟩) m_wor vc_wor, .pointer (some ⟨tb_com, 0, none⟩), .slice (some ⟨vb_com, 0, none⟩) m_com vc_com, .map (some b_dec), .map (some b_fC), .map (some b_fS), .map (some b_fF)] : Array Value)[i]? = some v → (w16.alloc (.cells #[.pointer (some ⟨tb_cat, 0, none⟩), .slice (some ⟨vb_cat, 0, none⟩) m_cat vc_cat, .pointer (some ⟨tb_scr, 0, none⟩), .slice (some ⟨vb_scr, 0, none⟩) m_scr vc_scr, .pointer (some ⟨tb_clu, 0, none⟩), .slice (some ⟨vb_clu, 0, none⟩) m_clu vc_clu, .pointer (some ⟨tb_wor, 0, none⟩), .slice (some ⟨vb_wor, 0, none⟩) m_wor vc_wor, .pointer (some ⟨tb_com, 0, none⟩), .slice (some ⟨vb_com, 0, none⟩) m_com vc_com, .map (some b_dec), .map (some b_fC), .map (some b_fS), .map (some b_fF)] 43)).cell? ⟨w16.heap.size, i, none⟩ = some v := fun i v hi => (cell_of_row _ _ i _ _ _ (World.alloc_heap_new _ _)).trans hi
 have t_cat : StrTab (w16.alloc (.cells #[.pointer (some ⟨tb_cat, 0, none⟩), .slice (some ⟨vb_cat, 0, none⟩) m_cat vc_cat, .pointer (some ⟨tb_scr, 0, none⟩), .slice (some ⟨vb_scr, 0, none⟩) m_scr vc_scr, .pointer (some ⟨tb_clu, 0, none⟩), .slice (some ⟨vb_clu, 0, none⟩) m_clu vc_clu, .pointer (some ⟨tb_wor, 0, none⟩), .slice (some ⟨vb_wor, 0, none⟩) m_wor vc_wor, .pointer (some ⟨tb_com, 0, none⟩), .slice (some ⟨vb_com, 0, none⟩) m_com vc_com, .map (some b_dec), .map (some b_fC), .map (some b_fS), .map (some b_fF)] 43)) w16.heap.size 0 1 [67, 110] catL := ⟨tb_cat, vb_cat, vc_cat, s_cat, hcell 0 _ rfl, by rw [← HL_cat.out, HM_cat.out]; exact hcell 1 _ rfl, by rw [← HL_cat.out]; exact HF_cat.out.below (HB4.out.trans ((HB5.out.trans ((HB6.out.trans ((HB7.out.trans ((HB8.out.trans ((HB9.out.trans ((HB10.out.trans ((HB11.out.trans ((HB12.out.trans ((HB13.out.trans ((HB14.out.trans ((HB15.out.trans ((HB16.out.trans ((HBX.out).mono HB16.out.size)).mono HB15.out.size)).mono HB14.out.size)).mono HB13.out.size)).mono HB12.out.size)).mono HB11.out.size)).mono HB10.out.size)).mono HB9.out.size)).mono HB8.out.size)).mono HB7.out.size)).mono HB6.out.size)).mono HB5.out.size)).mono HB4.out.size))⟩
 have t_scr : StrTab (w16.alloc (.cells #[.pointer (some ⟨tb_cat, 0, none⟩), .slice (some ⟨vb_cat, 0, none⟩) m_cat vc_cat, .pointer (some ⟨tb_scr, 0, none⟩), .slice (some ⟨vb_scr, 0, none⟩) m_scr vc_scr, .pointer (some ⟨tb_clu, 0, none⟩), .slice (some ⟨vb_clu, 0, none⟩) m_clu vc_clu, .pointer (some ⟨tb_wor, 0, none⟩), .slice (some ⟨vb_wor, 0, none⟩) m_wor vc_wor, .pointer (some ⟨tb_com, 0, none⟩), .slice (some ⟨vb_com, 0, none⟩) m_com vc_com, .map (some b_dec), .map (some b_fC), .map (some b_fS), .map (some b_fF)] 43)) w16.heap.size 2 3 [90, 122, 122, 122] scrL := ⟨tb_scr, vb_scr, vc_scr, s_scr, hcell 2 _ rfl, by rw [← HL_scr.out, HM_scr.out]; exact hcell 3 _ rfl, by rw [← HL_scr.out]; exact HF_scr.out.below (HB6.out.trans ((HB7.out.trans ((HB8.out.trans ((HB9.out.trans ((HB10.out.trans ((HB11.out.trans ((HB12.out.trans ((HB13.out.trans ((HB14.out.trans ((HB15.out.trans ((HB16.out.trans ((HBX.out).mono HB16.out.size)).mono HB15.out.size)).mono HB14.out.size)).mono HB13.out.size)).mono HB12.out.size)).mono HB11.out.size)).mono HB10.out.size)).mono HB9.out.size)).mono HB8.out.size)).mono HB7.out.size)).mono HB6.out.size))⟩
 have t_clu : StrTab (w16.alloc (.cells #[.pointer (some ⟨tb_cat, 0, none⟩), .slice (some ⟨vb_cat, 0, none⟩) m_cat vc_cat, .pointer (some ⟨tb_scr, 0, none⟩), .slice (some ⟨vb_scr, 0, none⟩) m_scr vc_scr, .pointer (some ⟨tb_clu, 0, none⟩), .slice (some ⟨vb_clu, 0, none⟩) m_clu vc_clu, .pointer (some ⟨tb_wor, 0, none⟩), .slice (some ⟨vb_wor, 0, none⟩) m_wor vc_wor, .pointer (some ⟨tb_com, 0, none⟩), .slice (some ⟨vb_com, 0, none⟩) m_com vc_com, .map (some b_dec), .map (some b_fC), .map (some b_fS), .map (some b_fF)] 43)) w16.heap.size 4 5 [] cluL := ⟨tb_clu, vb_clu, vc_clu, s_clu, hcell 4 _ rfl, by rw [← HL_clu.out, HM_clu.out]; exact hcell 5 _ rfl, by rw [← HL_clu.out]; exact HF_clu.out.below (HB8.out.trans ((HB9.out.trans ((HB10.out.trans ((HB11.out.trans ((HB12.out.trans ((HB13.out.trans ((HB14.out.trans ((HB15.out.trans ((HB16.out.trans ((HBX.out).mono HB16.out.size)).mono HB15.out.size)).mono HB14.out.size)).mono HB13.out.size)).mono HB12.out.size)).mono HB11.out.size)).mono HB10.out.size)).mono HB9.out.size)).mono HB8.out.size))⟩
 have t_wor : StrTab (w16.alloc (.cells #[.pointer (some ⟨tb_cat, 0, none⟩), .slice (some ⟨vb_cat, 0, none⟩) m_cat vc_cat, .pointer (some ⟨tb_scr, 0, none⟩), .slice (some ⟨vb_scr, 0, none⟩) m_scr vc_scr, .pointer (some ⟨tb_clu, 0, none⟩), .slice (some ⟨vb_clu, 0, none⟩) m_clu vc_clu, .pointer (some ⟨tb_wor, 0, none⟩), .slice (some ⟨vb_wor, 0, none⟩) m_wor vc_wor, .pointer (some ⟨tb_com, 0, none⟩), .slice (some ⟨vb_com, 0, none⟩) m_com vc_com, .map (some b_dec), .map (some b_fC), .map (some b_fS), .map (some b_fF)] 43)) w16.heap.size 6 7 [] worL := ⟨tb_wor, vb_wor, vc_wor, s_wor, hcell 6 _ rfl, by rw [← HL_wor.out, HM_wor.out]; exact hcell 7 _ rfl, by rw [← HL_wor.out]; exact HF_wor.out.below (HB10.out.trans ((HB11.out.trans ((HB12.out.trans ((HB13.out.trans ((HB14.out.trans ((HB15.out.trans ((HB16.out.trans ((HBX.out).mono HB16.out.size)).mono HB15.out.size)).mono HB14.out.size)).mono HB13.out.size)).mono HB12.out.size)).mono HB11.out.size)).mono HB10.out.size))⟩
 have t_com : NumTab (w16.alloc (.cells #[.pointer (some ⟨tb_cat, 0, none⟩), .slice (some ⟨vb_cat, 0, none⟩) m_cat vc_cat, .pointer (some ⟨tb_scr, 0, none⟩), .slice (some ⟨vb_scr, 0, none⟩) m_scr vc_scr, .pointer (some ⟨tb_clu, 0, none⟩), .slice (some ⟨vb_clu, 0, none⟩) m_clu vc_clu, .pointer (some ⟨tb_wor, 0, none⟩), .slice (some ⟨vb_wor, 0, none⟩) m_wor vc_wor, .pointer (some ⟨tb_com, 0, none⟩), .slice (some ⟨vb_com, 0, none⟩) m_com vc_com, .map (some b_dec), .map (some b_fC), .map (some b_fS), .map (some b_fF)] 43)) w16.heap.size 8 9 comL := ⟨tb_com, vb_com, vc_com, vals_com, s_com, hcell 8 _ rfl, by rw [HM_com.out]; exact hcell 9 _ rfl, HF_com.out.below (HB12.out.trans ((HB13.out.trans ((HB14.out.trans ((HB15.out.trans ((HB16.out.trans ((HBX.out).mono HB16.out.size)).mono HB15.out.size)).mono HB14.out.size)).mono HB13.out.size)).mono HB12.out.size))⟩
 exact ⟨w16.heap.size, rfl, ⟨t_cat, t_scr, t_clu, t_wor, t_com, ⟨b_dec, hcell 10 _ rfl, HF_dec.out.below (HB14.out.trans ((HB15.out.trans ((HB16.out.trans ((HBX.out).mono HB16.out.size)).mono HB15.out.size)).mono HB14.out.size))⟩, ⟨b_fC, hcell 11 _ rfl, HF_fC.out.below (HB15.out.trans ((HB16.out.trans ((HBX.out).mono HB16.out.size)).mono HB15.out.size))⟩, ⟨b_fS, hcell 12 _ rfl, HF_fS.out.below (HB16.out.trans ((HBX.out).mono HB16.out.size))⟩, ⟨b_fF, hcell 13 _ rfl, HF_fF.out.below (HBX.out)⟩⟩, (HB1.out.trans ((HB2.out.trans ((HB3.out.trans ((HB4.out.trans ((HB5.out.trans ((HB6.out.trans ((HB7.out.trans ((HB8.out.trans ((HB9.out.trans ((HB10.out.trans ((HB11.out.trans ((HB12.out.trans ((HB13.out.trans ((HB14.out.trans ((HB15.out.trans ((HB16.out.trans ((HBX.out).mono HB16.out.size)).mono HB15.out.size)).mono HB14.out.size)).mono HB13.out.size)).mono HB12.out.size)).mono HB11.out.size)).mono HB10.out.size)).mono HB9.out.size)).mono HB8.out.size)).mono HB7.out.size)).mono HB6.out.size)).mono HB5.out.size)).mono HB4.out.size)).mono HB3.out.size)).mono HB2.out.size)).mono HB1.out.size))⟩
end Go.Proofs.YtinlolmjafjhnaaGreatDoor.prp
end

section
/- What the tables tell of a code point. -/
set_option linter.unusedVariables false
set_option linter.unusedSimpArgs false
namespace Go.Proofs.YtinlolmjafjhnaaGreatDoor.prp
open Go.RowKit Go.Maps lin

/-- Tables that no call made. -/
def Unmade (w : World) (v : Value) : Prop := v = .pointer none ∨ ∃ t, v = .pointer (some ⟨t, 0, none⟩) ∧ w.cell? ⟨t, 0, none⟩ = some (.pointer none)
theorem Unmade.below {w w' : World} {v : Value} (h : Unmade w v) (hb : Below w.heap.size w w') : Unmade w' v := by
 rcases h with h | ⟨t, h1, h2⟩
 ·exact .inl h
 ·exact .inr ⟨t, h1, cell_below hb h2⟩
set_option maxRecDepth 1000000 in
theorem made_no (v : Value) (w : World) (h : Unmade w v) : Calls Tryz.prog 91 #[v] w fun e w' => e = .returned (.bool false) ∧ w' = w := by
 rcases h with rfl | ⟨t, rfl, h⟩
 ·go_enter Tryz.func91, Tryz.ntmps91
  go_wp2
  go_ret
  exact ⟨rfl, rfl⟩
 ·go_enter Tryz.func91, Tryz.ntmps91
  go_wp2
  go_ret
  exact ⟨rfl, rfl⟩
set_option maxRecDepth 1000000 in
theorem made_yes (t tb : Nat) (w : World) (h : w.cell? ⟨t, 0, none⟩ = some (.pointer (some ⟨tb, 0, none⟩))) : Calls Tryz.prog 91 #[.pointer (some ⟨t, 0, none⟩)] w fun e w' => e = .returned (.bool true) ∧ w' = w := by
 go_enter Tryz.func91, Tryz.ntmps91
 go_wp2
 go_ret
 exact ⟨rfl, rfl⟩
theorem made_t (t : Nat) (w : World) (h : Tabs w t) : Calls Tryz.prog 91 #[.pointer (some ⟨t, 0, none⟩)] w fun e w' => e = .returned (.bool true) ∧ w' = w := by
 obtain ⟨tb, vb, vc, s, h1, _⟩ := h.cat
 exact made_yes t tb w h1

set_option maxRecDepth 1000000 in
theorem category_t (t : Nat) (r : Int) (w : World) (h : Tabs w t) : Calls Tryz.prog 62 #[.pointer (some ⟨t, 0, none⟩), .int .i64 r] w fun e w' => e = .returned (.string (BA (sF [67, 110] catL r))) ∧ Below w.heap.size w w' := by
 have C := made_t t w h
 obtain ⟨tb, vb, vc, s, c0, c1, ht⟩ := h.cat
 have D := str.of_any tb vb vc _ s _ r w ht
 clear h ht
 generalize sF [67, 110] catL r = X at *
 generalize hm : (sV _ _).length = m at *
 clear hm
 go_enter Tryz.func62, Tryz.ntmps62
 go_wp2_with fail
 refine C.mono ?_
 rintro e w1 ⟨rfl, hw⟩
 rw [hw]
 clear C hw
 go_wp2_with fail
 refine D.mono ?_
 rintro e w2 ⟨rfl, hb⟩
 clear D
 go_wp2
 go_ret
 exact ⟨rfl, hb⟩
set_option maxRecDepth 1000000 in
theorem category_no (v : Value) (r : Int) (w : World) (h : Unmade w v) : Calls Tryz.prog 62 #[v, .int .i64 r] w fun e w' => e = .returned (.string ⟨#[]⟩) ∧ w' = w := by
 have C := made_no v w h
 go_enter Tryz.func62, Tryz.ntmps62
 go_wp2_with fail
 refine C.mono ?_
 rintro e w1 ⟨rfl, hw⟩
 rw [hw]
 go_wp2
 go_ret
 exact ⟨rfl, rfl⟩

/-- The break of clusters. -/
def clF (r : Int) : List UInt8 := if r < 44032 ∨ 55203 < r then sF [] cluL r else if (r - 44032) % 28 = 0 then [76, 86] else [76, 86, 84]
end Go.Proofs.YtinlolmjafjhnaaGreatDoor.prp
end

section
/- Parts and Fold. -/
set_option linter.unusedVariables false
set_option linter.unusedSimpArgs false
namespace Go.Proofs.YtinlolmjafjhnaaGreatDoor.prp
open Go.RowKit Go.Maps lin

def partsF (r : Int) : List Int := (lastG partsVal decL r).getD []
theorem lastG_bound (val : RL → Int → Option (List Int)) (n : Nat) (l : List RL) (h : ∀ x ∈ l, ∀ r xs, val x r = some xs → xs.length ≤ n) : ∀ (r : Int) xs, lastG val l r = some xs → xs.length ≤ n := by
 have key : ∀ (l : List RL) (g : Int → Option (List Int)), (∀ x ∈ l, ∀ r xs, val x r = some xs → xs.length ≤ n) → (∀ r xs, g r = some xs → xs.length ≤ n) → ∀ r xs, l.foldl (fun g x => fun r => (val x r).or (g r)) g r = some xs → xs.length ≤ n := by
  intro l
  induction l with
  | nil => intro g _ hg r xs h; exact hg r xs h
  | cons x l ih =>
   intro g hl hg r xs h
   rw [List.foldl_cons] at h
   refine ih _ (fun y hy => hl y (by simp [hy])) (fun r xs h => ?_) r xs h
   cases hv : val x r with
   | none => simp only [hv, Option.none_or] at h; exact hg r xs h
   | some ys => simp only [hv, Option.some_or] at h; cases h; exact hl x (by simp) r _ hv
 exact key l _ h (fun r xs h => by cases h)
theorem dec_small : ∀ x ∈ decL, (cp x 0).length ≤ 4 := by decide +kernel
theorem fol_small : ∀ x ∈ folL, (cp x 1).length ≤ 4 := by decide +kernel
theorem parts_len (r : Int) : (partsF r).length ≤ 4 := by
 unfold partsF
 cases h : lastG partsVal decL r with
 | none => simp
 | some xs =>
  refine lastG_bound partsVal 4 decL (fun x hx r xs h => ?_) r xs h
  unfold partsVal at h
  split at h
  ·cases h; exact dec_small x hx
  ·cases h
theorem fold_len (st : List UInt8) (r : Int) (xs : List Int) (h : lastG (foldVal st) folL r = some xs) : xs.length ≤ 4 := by
 refine lastG_bound (foldVal st) 4 folL (fun x hx r xs h => ?_) r xs h
 unfold foldVal at h
 split at h
 ·cases h; rw [List.length_map]; exact fol_small x hx
 ·cases h

set_option maxRecDepth 1000000 in
theorem parts_t (t : Nat) (r : Int) (w : World) (h : Tabs w t) (hr : okI r) : Calls Tryz.prog 131 #[.pointer (some ⟨t, 0, none⟩), .int .i64 r] w fun e w' => ∃ v, e = .returned v ∧ IOwn w' w.heap.size v (partsF r) ∧ Below w.heap.size w w' := by
 have C := made_t t w h
 obtain ⟨b, c0, hm⟩ := h.par
 obtain ⟨v, _, hl, hv⟩ := hm.look hr
 have hn := parts_len r
 have D := iclone_any v (partsF r) w hv (by omega)
 obtain ⟨a, c, rfl, _⟩ := id hv
 clear h hm hv
 go_enter Tryz.func131, Tryz.ntmps131
 go_wp2_with fail
 refine C.mono ?_
 rintro e w1 ⟨rfl, hw⟩
 rw [hw]
 clear C hw
 generalize ((lastG partsVal decL r).getD []).length = m at *
 go_wp2_with fail
 refine D.mono ?_
 rintro e w2 ⟨v', rfl, ho, hb⟩
 clear D
 go_wp2
 go_ret
 exact ⟨_, rfl, ho, hb⟩
/-- What a code point folds to. -/
def foldF (full : Bool) (r : Int) : List Int := ((lastG (foldVal [67]) folL r).or (lastG (foldVal (if full then [70] else [83])) folL r)).getD [r]
theorem index0 (b1 b2 : Nat) (w : World) : (Instr.index 243 (.agg #[.map (some b1), .map (some b2)]) (.int .i64 0)).run Tryz.prog w = .ok (.map (some b1)) w := by kernel_rfl
theorem index1 (b1 b2 : Nat) (w : World) : (Instr.index 243 (.agg #[.map (some b1), .map (some b2)]) (.int .i64 1)).run Tryz.prog w = .ok (.map (some b2)) w := by kernel_rfl
theorem foldF_true (r : Int) : foldF true r = ((lastG (foldVal [67]) folL r).or (lastG (foldVal [70]) folL r)).getD [r] := rfl
set_option maxHeartbeats 2000000 in
set_option maxRecDepth 1000000 in
theorem fold_true (t : Nat) (r : Int) (w : World) (h : Tabs w t) (hr : okI r) : Calls Tryz.prog 153 #[.pointer (some ⟨t, 0, none⟩), .int .i64 r, .bool true] w fun e w' => ∃ v, e = .returned v ∧ IOwn w' w.heap.size v (foldF true r) ∧ Below w.heap.size w w' := by
 have C := made_t t w h
 obtain ⟨b1, c1, m1⟩ := h.fc
 obtain ⟨b2, c2, m2⟩ := h.ff
 obtain ⟨b3, c3, _⟩ := h.fs
 obtain ⟨v1, l1, _, i1⟩ := m1.look hr
 obtain ⟨v2, l2, _, i2⟩ := m2.look hr
 rw [foldF_true]
 have x0 := index0 b1 b2
 have x1 := index1 b1 b2
 have n1 : ∀ xs, lastG (foldVal [67]) folL r = some xs → xs.length ≤ 4 := fold_len _ r
 have n2 : ∀ xs, lastG (foldVal [70]) folL r = some xs → xs.length ≤ 4 := fold_len _ r
 clear h m1 m2
 generalize lastG (foldVal [67]) folL r = g1 at *
 generalize lastG (foldVal [70]) folL r = g2 at *
 obtain ⟨a1, k1, rfl, _⟩ := id i1
 obtain ⟨a2, k2, rfl, _⟩ := id i2
 cases g1 with
 | some xs =>
  simp only [Option.some_or, Option.getD_some, Option.isSome_some] at *
  have D := iclone_any _ xs w i1 (by have := n1 xs rfl; omega)
  clear i1 i2 n1 n2
  generalize hx1 : xs.length = m1 at *
  clear hx1
  go_enter Tryz.func153, Tryz.ntmps153
  go_wp2_with fail
  refine C.mono ?_
  rintro e w1 ⟨rfl, hw⟩
  rw [hw]
  clear C hw
  go_wp2
  refine wp_loop_rounds 1 ?_
  rw [rounds_succ]
  go_wp2_with fail
  refine D.mono ?_
  rintro e w2 ⟨v', rfl, ho, hb⟩
  clear D
  go_wp2
  try rw [Exit.noGoto_ret]
  go_ret
  exact ⟨_, rfl, ho, hb⟩
 | none =>
  cases g2 with
  | some xs =>
   simp only [Option.none_or, Option.getD_some, Option.isSome_some, Option.isSome_none, Option.getD_none, List.length_nil] at *
   have D := iclone_any _ xs w i2 (by have := n2 xs rfl; omega)
   clear i1 i2 n1 n2
   generalize hx1 : xs.length = m1 at *
   clear hx1
   go_enter Tryz.func153, Tryz.ntmps153
   go_wp2_with fail
   refine C.mono ?_
   rintro e w1 ⟨rfl, hw⟩
   rw [hw]
   clear C hw
   go_wp2
   refine wp_loop_rounds 2 ?_
   rw [rounds_succ]
   go_wp2
   rw [rounds_succ]
   go_wp2_with fail
   refine D.mono ?_
   rintro e w2 ⟨v', rfl, ho, hb⟩
   clear D
   go_wp2
   try rw [Exit.noGoto_ret]
   go_ret
   exact ⟨_, rfl, ho, hb⟩
  | none =>
   simp only [Option.none_or, Option.isSome_none, Option.getD_none, List.length_nil] at *
   clear i1 i2 n1 n2
   go_enter Tryz.func153, Tryz.ntmps153
   go_wp2_with fail
   refine C.mono ?_
   rintro e w1 ⟨rfl, hw⟩
   rw [hw]
   clear C hw
   go_wp2
   refine wp_loop_rounds 3 ?_
   rw [rounds_succ]
   go_wp2
   rw [rounds_succ]
   go_wp2
   rw [rounds_succ]
   go_wp2
   try rw [Exit.noGoto_ret]
   go_ret
   exact ⟨_, rfl, World.ownsRow_lit (base := w.heap.size) (e := 3) (size := 1) w #[.int .i64 r] 1 (Nat.le_refl _) (by unfold maxLen; omega) rfl, (Below.refl _ w).alloc (Nat.le_refl _) _⟩
theorem foldF_false (r : Int) : foldF false r = ((lastG (foldVal [67]) folL r).or (lastG (foldVal [83]) folL r)).getD [r] := rfl
set_option maxHeartbeats 2000000 in
set_option maxRecDepth 1000000 in
theorem fold_false (t : Nat) (r : Int) (w : World) (h : Tabs w t) (hr : okI r) : Calls Tryz.prog 153 #[.pointer (some ⟨t, 0, none⟩), .int .i64 r, .bool false] w fun e w' => ∃ v, e = .returned v ∧ IOwn w' w.heap.size v (foldF false r) ∧ Below w.heap.size w w' := by
 have C := made_t t w h
 obtain ⟨b1, c1, m1⟩ := h.fc
 obtain ⟨b2, c2, m2⟩ := h.fs
 obtain ⟨b3, c3, _⟩ := h.ff
 obtain ⟨v1, l1, _, i1⟩ := m1.look hr
 obtain ⟨v2, l2, _, i2⟩ := m2.look hr
 rw [foldF_false]
 have x0 := index0 b1 b2
 have x1 := index1 b1 b2
 have n1 : ∀ xs, lastG (foldVal [67]) folL r = some xs → xs.length ≤ 4 := fold_len _ r
 have n2 : ∀ xs, lastG (foldVal [83]) folL r = some xs → xs.length ≤ 4 := fold_len _ r
 clear h m1 m2
 generalize lastG (foldVal [67]) folL r = g1 at *
 generalize lastG (foldVal [83]) folL r = g2 at *
 obtain ⟨a1, k1, rfl, _⟩ := id i1
 obtain ⟨a2, k2, rfl, _⟩ := id i2
 cases g1 with
 | some xs =>
  simp only [Option.some_or, Option.getD_some, Option.isSome_some] at *
  have D := iclone_any _ xs w i1 (by have := n1 xs rfl; omega)
  clear i1 i2 n1 n2
  generalize hx1 : xs.length = m1 at *
  clear hx1
  go_enter Tryz.func153, Tryz.ntmps153
  go_wp2_with fail
  refine C.mono ?_
  rintro e w1 ⟨rfl, hw⟩
  rw [hw]
  clear C hw
  go_wp2
  refine wp_loop_rounds 1 ?_
  rw [rounds_succ]
  go_wp2_with fail
  refine D.mono ?_
  rintro e w2 ⟨v', rfl, ho, hb⟩
  clear D
  go_wp2
  try rw [Exit.noGoto_ret]
  go_ret
  exact ⟨_, rfl, ho, hb⟩
 | none =>
  cases g2 with
  | some xs =>
   simp only [Option.none_or, Option.getD_some, Option.isSome_some, Option.isSome_none, Option.getD_none, List.length_nil] at *
   have D := iclone_any _ xs w i2 (by have := n2 xs rfl; omega)
   clear i1 i2 n1 n2
   generalize hx1 : xs.length = m1 at *
   clear hx1
   go_enter Tryz.func153, Tryz.ntmps153
   go_wp2_with fail
   refine C.mono ?_
   rintro e w1 ⟨rfl, hw⟩
   rw [hw]
   clear C hw
   go_wp2
   refine wp_loop_rounds 2 ?_
   rw [rounds_succ]
   go_wp2
   rw [rounds_succ]
   go_wp2_with fail
   refine D.mono ?_
   rintro e w2 ⟨v', rfl, ho, hb⟩
   clear D
   go_wp2
   try rw [Exit.noGoto_ret]
   go_ret
   exact ⟨_, rfl, ho, hb⟩
  | none =>
   simp only [Option.none_or, Option.isSome_none, Option.getD_none, List.length_nil] at *
   clear i1 i2 n1 n2
   go_enter Tryz.func153, Tryz.ntmps153
   go_wp2_with fail
   refine C.mono ?_
   rintro e w1 ⟨rfl, hw⟩
   rw [hw]
   clear C hw
   go_wp2
   refine wp_loop_rounds 3 ?_
   rw [rounds_succ]
   go_wp2
   rw [rounds_succ]
   go_wp2
   rw [rounds_succ]
   go_wp2
   try rw [Exit.noGoto_ret]
   go_ret
   exact ⟨_, rfl, World.ownsRow_lit (base := w.heap.size) (e := 3) (size := 1) w #[.int .i64 r] 1 (Nat.le_refl _) (by unfold maxLen; omega) rfl, (Below.refl _ w).alloc (Nat.le_refl _) _⟩
end Go.Proofs.YtinlolmjafjhnaaGreatDoor.prp
end

section
/- The document's side of props: the first record that says something of a code point; no two say something of one. -/
set_option linter.unusedVariables false
set_option linter.unusedSimpArgs false
namespace Go.Proofs.YtinlolmjafjhnaaGreatDoor.prp
open lin

/-- No two of the records that are kept have a code point in common. -/
def apartK (keep : RL → Bool) : List RL → Bool
 | [] => true
 | x :: l => (!keep x || l.all (fun y => !keep y || (decide (x.2.1 < y.1) || decide (y.2.1 < x.1)))) && apartK keep l
theorem apart_one {keep : RL → Bool} {x : RL} {l : List RL} (h : apartK keep (x :: l) = true) {r : Int} (hk : keep x = true) (hx : inR x r = true) : ∀ y ∈ l, keep y = true → inR y r = false := by
 intro y hy hky
 unfold apartK at h
 rw [hk, Bool.not_true, Bool.false_or, Bool.and_eq_true, List.all_eq_true] at h
 have h1 := h.1 y hy
 rw [hky, Bool.not_true, Bool.false_or, Bool.or_eq_true, decide_eq_true_eq, decide_eq_true_eq] at h1
 unfold inR at hx ⊢
 rw [Bool.and_eq_true, decide_eq_true_eq, decide_eq_true_eq] at hx
 cases t : (decide (y.1 ≤ r) && decide (r ≤ y.2.1))
 ·rfl
 ·rw [Bool.and_eq_true, decide_eq_true_eq, decide_eq_true_eq] at t
  omega
theorem apart_tail {keep : RL → Bool} {x : RL} {l : List RL} (h : apartK keep (x :: l) = true) : apartK keep l = true := by
 unfold apartK at h
 rw [Bool.and_eq_true] at h
 exact h.2
def allR (_ : RL) : Bool := true
theorem dec_apart : apartK allR decL = true := by decide +kernel
/-- The first record that says something of a code point. -/
def firstR (l : List RL) (r : Int) : Option RL := l.find? (fun x => inR x r)
theorem first_cons (x : RL) (l : List RL) (r : Int) : firstR (x :: l) r = if inR x r then some x else firstR l r := by
 unfold firstR
 rw [List.find?_cons]
 cases inR x r <;> rfl
theorem foldl_or (val : RL → Int → Option (List Int)) (r : Int) : ∀ (l : List RL) (g : Int → Option (List Int)), l.foldl (fun g x => fun r => (val x r).or (g r)) g r = (l.foldl (fun g x => fun r => (val x r).or (g r)) (fun _ => none) r).or (g r) := by
 intro l
 induction l with
 | nil => intro g; rfl
 | cons x l ih =>
  intro g
  rw [List.foldl_cons, List.foldl_cons, ih (fun r => (val x r).or (g r)), ih (fun r => (val x r).or none)]
  cases List.foldl (fun g x r => (val x r).or (g r)) (fun _ => none) l r <;> cases val x r <;> rfl
theorem lastG_cons (val : RL → Int → Option (List Int)) (x : RL) (l : List RL) (r : Int) : lastG val (x :: l) r = (lastG val l r).or (val x r) := by
 have e : lastG val (x :: l) r = l.foldl (fun g x => fun r => (val x r).or (g r)) (fun r => (val x r).or none) r := rfl
 rw [e, foldl_or]
 unfold lastG
 cases val x r <;> rfl
theorem lastG_two (v1 v2 : RL → Int → Option (List Int)) (r : Int) : ∀ l : List RL, (∀ a x b, l = a ++ x :: b → (v1 x r).or (v2 x r) ≠ none → ∀ y ∈ b, v1 y r = none ∧ v2 y r = none) → (lastG v1 l r).or (lastG v2 l r) = l.findSome? (fun x => (v1 x r).or (v2 x r)) := by
 intro l
 induction l with
 | nil => intro _; rfl
 | cons x l ih =>
  intro h
  have i1 := ih (fun a y b e => h (x :: a) y b (by rw [e]; rfl))
  have h0 := h [] x l rfl
  rw [lastG_cons, lastG_cons, List.findSome?_cons]
  cases t : (v1 x r).or (v2 x r) with
  | none =>
   obtain ⟨t1, t2⟩ : v1 x r = none ∧ v2 x r = none := by
    cases e1 : v1 x r <;> cases e2 : v2 x r <;> rw [e1, e2] at t <;> simp at t ⊢
   rw [t1, t2, Option.or_none, Option.or_none]
   exact i1
  | some z =>
   have hn := h0 (by rw [t]; simp)
   have n1 : ∀ (v : RL → Int → Option (List Int)), (∀ y ∈ l, v y r = none) → lastG v l r = none := by
    intro v hv
    clear i1 ih h h0 hn
    induction l with
    | nil => rfl
    | cons y l ih2 => rw [lastG_cons, ih2 (fun z hz => hv z (by simp [hz])), hv y (by simp)]; rfl
   rw [n1 v1 (fun y hy => (hn y hy).1), n1 v2 (fun y hy => (hn y hy).2), Option.none_or, Option.none_or]
   exact t
/-- The words of a text, as the document's side cuts it. -/
def spl : List UInt8 → List UInt8 → List (List UInt8)
 | cur, [] => [cur]
 | cur, c :: l => if c = 32 then cur :: spl [] l else spl (cur ++ [c]) l
def rcp (x : RL) (j : Nat) : List Int := pts ((spl [] (x.2.2.getD j [])).map BA)
theorem dec_rcp : ∀ x ∈ decL, rcp x 0 = cp x 0 := by decide +kernel
theorem fol_rcp : ∀ x ∈ folL, rcp x 1 = cp x 1 ∧ 0 < (cp x 1).length := by decide +kernel
theorem partsF_first (r : Int) : partsF r = ((firstR decL r).map (fun x => rcp x 0)).getD [] := by
 have h1 := lastG_two partsVal (fun _ _ => none) r decL (fun a x b e hx y hy => by
  refine ⟨?_, rfl⟩
  rw [Option.or_none] at hx
  have hin : inR x r = true := by
   cases t : inR x r
   ·exfalso; apply hx; unfold partsVal; rw [t]; rfl
   ·rfl
  have hap : ∀ (l a : List RL), apartK allR l = true → l = a ++ x :: b → apartK allR (x :: b) = true := by
   intro l a
   induction a generalizing l with
   | nil => intro h e; rw [e] at h; exact h
   | cons z a ih => intro h e; rw [e] at h; exact ih _ (apart_tail h) rfl
  have := apart_one (hap _ a dec_apart e) rfl hin y hy rfl
  unfold partsVal
  rw [this]
  rfl)
 have h2 : lastG (fun _ _ => none) decL r = none := by
  have : ∀ l : List RL, lastG (fun _ _ => none) l r = none := by
   intro l
   induction l with
   | nil => rfl
   | cons y l ih => rw [lastG_cons, ih]; rfl
  exact this _
 rw [h2, Option.or_none] at h1
 unfold partsF
 rw [h1]
 have h3 : ∀ l : List RL, (∀ x ∈ l, rcp x 0 = cp x 0) → l.findSome? (fun x => (partsVal x r).or none) = (firstR l r).map (fun x => rcp x 0) := by
  intro l
  induction l with
  | nil => intro _; rfl
  | cons y l ih =>
   intro hl
   rw [List.findSome?_cons, first_cons, Option.or_none]
   cases t : inR y r
   ·have e : partsVal y r = none := by unfold partsVal; rw [t]; rfl
    rw [e, if_neg (by decide)]
    exact ih (fun x hx => hl x (by simp [hx]))
   ·have e : partsVal y r = some (cp y 0) := by unfold partsVal; rw [t]; rfl
    rw [e, if_pos rfl, Option.map_some, hl y (by simp)]
 rw [h3 _ dec_rcp]
/-- Is the record one of those that this way of folding takes? -/
def takesB (full : Bool) (x : RL) : Bool := (x.2.2.getD 0 [] == [67]) || ((x.2.2.getD 0 [] == [70]) == full)
theorem fol_apart : apartK (takesB true) folL = true ∧ apartK (takesB false) folL = true := by decide +kernel
theorem fol_fit2 : ∀ x ∈ folL, 2 ≤ x.2.2.length ∧ (x.2.2.getD 0 [] = [67] ∨ x.2.2.getD 0 [] = [70] ∨ x.2.2.getD 0 [] = [83]) ∧ (x.1 = x.2.1 ∨ (cp x 1).length = 1) := by decide +kernel
/-- What a record folds to, as the document's side reckons it. -/
def headAdd (l : List Int) (k : Int) : List Int := match l with | [] => [] | a :: t => (a + k) :: t
def firstF (full : Bool) (l : List RL) (r : Int) : Option RL := l.find? (fun x => takesB full x && inR x r)
theorem foldF_first (full : Bool) (r : Int) : foldF full r = ((firstF full folL r).map (fun x => headAdd (rcp x 1) (r - x.1))).getD [r] := by
 have hap0 : apartK (takesB full) folL = true := by
  cases full with
  | false => exact fol_apart.2
  | true => exact fol_apart.1
 have hone : ∀ x ∈ folL, (foldVal [67] x r).or (foldVal (if full then [70] else [83]) x r) = if takesB full x && inR x r then some (headAdd (rcp x 1) (r - x.1)) else none := by
  intro x hx
  obtain ⟨h1, h2, h3⟩ := fol_fit2 x hx
  have hh : inR x r = true → (cp x 1).map (· + (r - x.1)) = headAdd (rcp x 1) (r - x.1) := by
   intro hin
   rw [(fol_rcp x hx).1]
   have hpos := (fol_rcp x hx).2
   unfold inR at hin
   rw [Bool.and_eq_true, decide_eq_true_eq, decide_eq_true_eq] at hin
   generalize cp x 1 = L at *
   cases L with
   | nil => rfl
   | cons a t =>
    rcases h3 with h3 | h3
    ·have : r - x.1 = 0 := by omega
     rw [this]
     simp [headAdd]
    ·have : t = [] := List.eq_nil_of_length_eq_zero (by simpa using h3)
     subst this
     rfl
  unfold foldVal takesB
  cases t : inR x r
  ·rw [Bool.and_false, if_neg (by simp), if_neg (by simp), if_neg (by simp)]; rfl
  ·rw [Bool.and_true]
   rcases h2 with e | e | e <;> rw [e] <;> cases full <;> simp [h1, hh t]
 have h1 := lastG_two (foldVal [67]) (foldVal (if full then [70] else [83])) r folL (fun a x b e hx y hy => by
  have hxm : x ∈ folL := by rw [e]; simp
  have hym : y ∈ folL := by rw [e]; simp [hy]
  rw [hone x hxm] at hx
  have hin : takesB full x = true ∧ inR x r = true := by
   cases t : takesB full x && inR x r
   ·rw [t] at hx; exact absurd rfl hx
   ·rwa [Bool.and_eq_true] at t
  have hap : ∀ (l a : List RL), apartK (takesB full) l = true → l = a ++ x :: b → apartK (takesB full) (x :: b) = true := by
   intro l a
   induction a generalizing l with
   | nil => intro h e; rw [e] at h; exact h
   | cons z a ih => intro h e; rw [e] at h; exact ih _ (apart_tail h) rfl
  have hy2 := hone y hym
  have hyF : (takesB full y && inR y r) = false := by
   cases t : takesB full y
   ·rfl
   ·rw [apart_one (hap _ a hap0 e) hin.1 hin.2 y hy t]; rfl
  rw [hyF] at hy2
  have hy3 : (foldVal [67] y r).or (foldVal (if full then [70] else [83]) y r) = none := hy2
  cases e1 : foldVal [67] y r <;> cases e2 : foldVal (if full then [70] else [83]) y r <;> rw [e1, e2] at hy3 <;> simp at hy3 ⊢)
 unfold foldF
 rw [h1]
 have h3 : ∀ l : List RL, (∀ x ∈ l, x ∈ folL) → l.findSome? (fun x => (foldVal [67] x r).or (foldVal (if full then [70] else [83]) x r)) = (firstF full l r).map (fun x => headAdd (rcp x 1) (r - x.1)) := by
  intro l
  induction l with
  | nil => intro _; rfl
  | cons y l ih =>
   intro hl
   unfold firstF at ih ⊢
   rw [List.findSome?_cons, hone y (hl y (by simp)), List.find?_cons]
   cases t : takesB full y && inR y r
   ·exact ih (fun x hx => hl x (by simp [hx]))
   ·rfl
 rw [h3 folL (fun x hx => hx)]
/-- A number's digits, as the document's side reads them. -/
def digL (l : List UInt8) : Int := l.foldl (fun n c => 10 * n + ((c - 48).toNat : Int)) 0
def orF (l : List RL) (r : Int) (other : List UInt8) : List UInt8 := ((firstR l r).map (fun x => x.2.2.getD 0 [])).getD other
end Go.Proofs.YtinlolmjafjhnaaGreatDoor.prp
end

section
/- rubricatorref06.points. -/
set_option linter.unusedVariables false
set_option linter.unusedSimpArgs false
namespace Go.Proofs.YtinlolmjafjhnaaGreatDoor.prp
open Go.RowKit Go.Maps lin
open Go.Proofs.YtinlolmjafjhnaaGreatDoor.nam (BA_app ext_one)

end Go.Proofs.YtinlolmjafjhnaaGreatDoor.prp
end

section
/- The document's side: what a file says of a code point. -/
set_option linter.unusedVariables false
set_option linter.unusedSimpArgs false
namespace Go.Proofs.YtinlolmjafjhnaaGreatDoor.prp
open Go.RowKit Go.Maps lin

end Go.Proofs.YtinlolmjafjhnaaGreatDoor.prp
end
