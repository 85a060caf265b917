/- Texts that the proof leans on, one behind the other. -/
import Derived.Test.YtbdojobplhpnbabGreatDoorBdPrp4
import Derived.Test.YtbdojobplhpnbabGreatDoorBdPrp5

section
/- props.Load: the tables in memory. -/
set_option linter.unusedVariables false
set_option linter.unusedSimpArgs false
namespace Go.Proofs.YtbdojobplhpnbabGreatDoor.prp
open Go.RowKit Go.Maps lin

/-- Tables of a file: what is said of a code point. -/
def sF (nn : List UInt8) (l : List RL) : Int → List UInt8 := lastV nn (l.map str.trip)
def sV (nn : List UInt8) (l : List RL) : List (List UInt8) := (tall nn (l.map str.trip)).1
def iF (l : List RL) : Int → Int := lastV 0 (l.map num.trip)
def StrTab (w : World) (t o1 o2 : Nat) (nn : List UInt8) (l : List RL) : Prop := ∃ tb vb vc s, w.cell? ⟨t, o1, none⟩ = some (.pointer (some ⟨tb, 0, none⟩)) ∧ w.cell? ⟨t, o2, none⟩ = some (.slice (some ⟨vb, 0, none⟩) (sV nn l).length vc) ∧ str.TabIs w tb vb (sV nn l) s (sF nn l)
def NumTab (w : World) (t o1 o2 : Nat) (l : List RL) : Prop := ∃ tb vb vc vals s, w.cell? ⟨t, o1, none⟩ = some (.pointer (some ⟨tb, 0, none⟩)) ∧ w.cell? ⟨t, o2, none⟩ = some (.slice (some ⟨vb, 0, none⟩) vals.length vc) ∧ num.TabIs w tb vb vals s (iF l)
def LTab (w : World) (t o : Nat) (g : Int → Option (List Int)) : Prop := ∃ b, w.cell? ⟨t, o, none⟩ = some (.map (some b)) ∧ LMap w b 2000000 g
/-- In block t lie the tables. -/
structure Tabs (w : World) (t : Nat) : Prop where
  cat : StrTab w t 0 1 [67, 110] catL
  scr : StrTab w t 2 3 [90, 122, 122, 122] scrL
  clu : StrTab w t 4 5 [] cluL
  wor : StrTab w t 6 7 [] worL
  com : NumTab w t 8 9 comL
  par : LTab w t 10 (lastG partsVal decL)
  fc : LTab w t 11 (lastG (foldVal [67]) folL)
  fs : LTab w t 12 (lastG (foldVal [83]) folL)
  ff : LTab w t 13 (lastG (foldVal [70]) folL)
theorem cell_below {w w' : World} (hb : Below w.heap.size w w') {a : Addr} {v : Value} (h : w.cell? a = some v) : w'.cell? a = some v := (hb.cell (p := a) (World.block_lt_of_cell? w a h)).trans h
theorem StrTab.below {w w' : World} {t o1 o2 : Nat} {nn : List UInt8} {l : List RL} (h : StrTab w t o1 o2 nn l) (hb : Below w.heap.size w w') : StrTab w' t o1 o2 nn l := by
  obtain ⟨tb, vb, vc, s, h1, h2, h3⟩ := h
  exact ⟨tb, vb, vc, s, cell_below hb h1, cell_below hb h2, h3.below hb⟩
theorem NumTab.below {w w' : World} {t o1 o2 : Nat} {l : List RL} (h : NumTab w t o1 o2 l) (hb : Below w.heap.size w w') : NumTab w' t o1 o2 l := by
  obtain ⟨tb, vb, vc, vals, s, h1, h2, h3⟩ := h
  exact ⟨tb, vb, vc, vals, s, cell_below hb h1, cell_below hb h2, h3.below hb⟩
theorem LTab.below {w w' : World} {t o : Nat} {g : Int → Option (List Int)} (h : LTab w t o g) (hb : Below w.heap.size w w') : LTab w' t o g := by
  obtain ⟨b, h1, h2⟩ := h
  exact ⟨b, cell_below hb h1, h2.below hb⟩
theorem Tabs.below {w w' : World} {t : Nat} (h : Tabs w t) (hb : Below w.heap.size w w') : Tabs w' t :=
  ⟨h.cat.below hb, h.scr.below hb, h.clu.below hb, h.wor.below hb, h.com.below hb, h.par.below hb, h.fc.below hb, h.fs.below hb, h.ff.below hb⟩

theorem cat_tfit : ∀ x ∈ catL, str.tfitB x = true := by decide +kernel
theorem scr_tfit : ∀ x ∈ scrL, str.tfitB x = true := by decide +kernel
theorem clu_tfit : ∀ x ∈ cluL, str.tfitB x = true := by decide +kernel
theorem wor_tfit : ∀ x ∈ worL, str.tfitB x = true := by decide +kernel
theorem com_tfit : ∀ x ∈ comL, num.tfitB x = true := by decide +kernel
theorem dec_fit : ∀ x ∈ decL, fitB x = true := by decide +kernel
theorem fol_fit : ∀ x ∈ folL, fitB x = true := by decide +kernel
theorem fol_cp : ∀ x ∈ folL, ∀ y ∈ cp x 1, 0 ≤ y ∧ y ≤ 1114111 := by decide +kernel
theorem cat_n : 0 < catL.length ∧ catL.length ≤ 1000 := by decide +kernel
theorem scr_n : 0 < scrL.length ∧ scrL.length ≤ 1000 := by decide +kernel
theorem clu_n : 0 < cluL.length ∧ cluL.length ≤ 1000 := by decide +kernel
theorem wor_n : 0 < worL.length ∧ worL.length ≤ 1000 := by decide +kernel
theorem com_n : 0 < comL.length ∧ comL.length ≤ 1000 := by decide +kernel
theorem dec_n : 0 < decL.length ∧ decL.length ≤ 1000 := by decide +kernel
theorem fol_n : 0 < folL.length ∧ folL.length ≤ 1000 := by decide +kernel

set_option maxHeartbeats 8000000 in
set_option maxRecDepth 1000000 in
theorem load_any (w : World) (E : Env w) :
    Calls Tryz.prog 9 #[] w fun e w' => ∃ t, e = .returned (.pointer (some ⟨t, 0, none⟩)) ∧ Tabs w' t ∧ Below w.heap.size w w' := by
  have HE0 : Hid (Env w) := E
  clear E
  have HR_cat : Hid (∀ W, Env W → Calls Tryz.prog 17 #[.string catB] W fun e w' => ∃ v, e = .returned v ∧ View w' v (catL.map recOf) ∧ Below W.heap.size W w') := fun W EW => records_any catB catL W EW cat_parse cat_size
  have HA_cat : Hid (∀ W, Calls Tryz.prog 20 #[] W fun e w' => e = .returned (.string catB) ∧ w' = W) := fun W => cat_any W
  have HR_scr : Hid (∀ W, Env W → Calls Tryz.prog 17 #[.string scrB] W fun e w' => ∃ v, e = .returned v ∧ View w' v (scrL.map recOf) ∧ Below W.heap.size W w') := fun W EW => records_any scrB scrL W EW scr_parse scr_size
  have HA_scr : Hid (∀ W, Calls Tryz.prog 22 #[] W fun e w' => e = .returned (.string scrB) ∧ w' = W) := fun W => scr_any W
  have HR_clu : Hid (∀ W, Env W → Calls Tryz.prog 17 #[.string cluB] W fun e w' => ∃ v, e = .returned v ∧ View w' v (cluL.map recOf) ∧ Below W.heap.size W w') := fun W EW => records_any cluB cluL W EW clu_parse clu_size
  have HA_clu : Hid (∀ W, Calls Tryz.prog 23 #[] W fun e w' => e = .returned (.string cluB) ∧ w' = W) := fun W => clu_any W
  have HR_wor : Hid (∀ W, Env W → Calls Tryz.prog 17 #[.string worB] W fun e w' => ∃ v, e = .returned v ∧ View w' v (worL.map recOf) ∧ Below W.heap.size W w') := fun W EW => records_any worB worL W EW wor_parse wor_size
  have HA_wor : Hid (∀ W, Calls Tryz.prog 24 #[] W fun e w' => e = .returned (.string worB) ∧ w' = W) := fun W => wor_any W
  have HR_com : Hid (∀ W, Env W → Calls Tryz.prog 17 #[.string comB] W fun e w' => ∃ v, e = .returned v ∧ View w' v (comL.map recOf) ∧ Below W.heap.size W w') := fun W EW => records_any comB comL W EW com_parse com_size
  have HA_com : Hid (∀ W, Calls Tryz.prog 26 #[] W fun e w' => e = .returned (.string comB) ∧ w' = W) := fun W => com_any W
  have HR_dec : Hid (∀ W, Env W → Calls Tryz.prog 17 #[.string decB] W fun e w' => ∃ v, e = .returned v ∧ View w' v (decL.map recOf) ∧ Below W.heap.size W w') := fun W EW => records_any decB decL W EW dec_parse dec_size
  have HA_dec : Hid (∀ W, Calls Tryz.prog 29 #[] W fun e w' => e = .returned (.string decB) ∧ w' = W) := fun W => dec_any W
  have HR_fol : Hid (∀ W, Env W → Calls Tryz.prog 17 #[.string folB] W fun e w' => ∃ v, e = .returned v ∧ View w' v (folL.map recOf) ∧ Below W.heap.size W w') := fun W EW => records_any folB folL W EW fol_parse fol_size
  have HA_fol : Hid (∀ W, Calls Tryz.prog 18 #[] W fun e w' => e = .returned (.string folB) ∧ w' = W) := fun W => fol_any W
  generalize hrf : folB = fB at *
  clear hrf
  generalize hrcat : catB = catX at *
  clear hrcat
  generalize hrscr : scrB = scrX at *
  clear hrscr
  generalize hrclu : cluB = cluX at *
  clear hrclu
  generalize hrwor : worB = worX at *
  clear hrwor
  generalize hrcom : comB = comX at *
  clear hrcom
  generalize hrdec : decB = decX at *
  clear hrdec
  go_enter Tryz.func9, Tryz.ntmps9
  have C := HA_fol.out w
  go_wp2_with fail
  refine C.mono ?_
  rintro e w0 ⟨rfl, hw0⟩
  rw [hw0]
  clear C hw0 w0
  have C := HR_fol.out w HE0.out
  go_wp2_with fail
  refine C.mono ?_
  rintro e w1 ⟨v_fol, rfl, hv, hb⟩
  clear C
  have HV_fol : Hid (View w1 v_fol (folL.map recOf)) := hv
  have HB1 : Hid (Below w.heap.size w w1) := hb
  have HE1 : Hid (Env w1) := HE0.out.below hb
  clear hb
  obtain ⟨a_fol, c_fol, rfl, _⟩ := id hv
  clear hv
  generalize (folL.map recOf).length = n_fol at *
  have C := HA_cat.out w1
  go_wp2_with fail
  refine C.mono ?_
  rintro e w0 ⟨rfl, hw0⟩
  rw [hw0]
  clear C hw0 w0
  have C := HR_cat.out w1 HE1.out
  go_wp2_with fail
  refine C.mono ?_
  rintro e w2 ⟨v_cat, rfl, hv, hb⟩
  clear C
  have HV_cat : Hid (View w2 v_cat (catL.map recOf)) := hv
  have HB2 : Hid (Below w1.heap.size w1 w2) := hb
  have HE2 : Hid (Env w2) := HE1.out.below hb
  clear hb
  obtain ⟨a_cat, c_cat, rfl, _⟩ := id hv
  clear hv
  have C := str.table_any _ catL [67, 110] w2 HV_cat.out cat_n.1 cat_n.2 cat_tfit (by unfold str.okS; decide)
  go_wp2_with fail
  refine C.mono ?_
  rintro e w3 ⟨tb_cat, vb_cat, vc_cat, vals, s_cat, rfl, hvl, ht, hb⟩
  clear C
  have HF_cat : Hid (str.TabIs w3 tb_cat vb_cat vals s_cat (lastV [67, 110] (catL.map str.trip))) := ht
  have HB3 : Hid (Below w2.heap.size w2 w3) := hb
  have HE3 : Hid (Env w3) := HE2.out.below hb
  clear hb
  clear ht
  have HL_cat : Hid (vals = sV [67, 110] catL) := hvl
  clear hvl
  generalize hl_cat : vals = vals_cat at *
  clear hl_cat
  generalize hm_cat : vals_cat.length = m_cat at *
  have HM_cat : Hid (vals_cat.length = m_cat) := hm_cat
  clear hm_cat HV_cat
  have C := HA_scr.out w3
  go_wp2_with fail
  refine C.mono ?_
  rintro e w0 ⟨rfl, hw0⟩
  rw [hw0]
  clear C hw0 w0
  have C := HR_scr.out w3 HE3.out
  go_wp2_with fail
  refine C.mono ?_
  rintro e w4 ⟨v_scr, rfl, hv, hb⟩
  clear C
  have HV_scr : Hid (View w4 v_scr (scrL.map recOf)) := hv
  have HB4 : Hid (Below w3.heap.size w3 w4) := hb
  have HE4 : Hid (Env w4) := HE3.out.below hb
  clear hb
  obtain ⟨a_scr, c_scr, rfl, _⟩ := id hv
  clear hv
  have C := str.table_any _ scrL [90, 122, 122, 122] w4 HV_scr.out scr_n.1 scr_n.2 scr_tfit (by unfold str.okS; decide)
  go_wp2_with fail
  refine C.mono ?_
  rintro e w5 ⟨tb_scr, vb_scr, vc_scr, vals, s_scr, rfl, hvl, ht, hb⟩
  clear C
  have HF_scr : Hid (str.TabIs w5 tb_scr vb_scr vals s_scr (lastV [90, 122, 122, 122] (scrL.map str.trip))) := ht
  have HB5 : Hid (Below w4.heap.size w4 w5) := hb
  have HE5 : Hid (Env w5) := HE4.out.below hb
  clear hb
  clear ht
  have HL_scr : Hid (vals = sV [90, 122, 122, 122] scrL) := hvl
  clear hvl
  generalize hl_scr : vals = vals_scr at *
  clear hl_scr
  generalize hm_scr : vals_scr.length = m_scr at *
  have HM_scr : Hid (vals_scr.length = m_scr) := hm_scr
  clear hm_scr HV_scr
  have C := HA_clu.out w5
  go_wp2_with fail
  refine C.mono ?_
  rintro e w0 ⟨rfl, hw0⟩
  rw [hw0]
  clear C hw0 w0
  have C := HR_clu.out w5 HE5.out
  go_wp2_with fail
  refine C.mono ?_
  rintro e w6 ⟨v_clu, rfl, hv, hb⟩
  clear C
  have HV_clu : Hid (View w6 v_clu (cluL.map recOf)) := hv
  have HB6 : Hid (Below w5.heap.size w5 w6) := hb
  have HE6 : Hid (Env w6) := HE5.out.below hb
  clear hb
  obtain ⟨a_clu, c_clu, rfl, _⟩ := id hv
  clear hv
  have C := str.table_any _ cluL [] w6 HV_clu.out clu_n.1 clu_n.2 clu_tfit (by unfold str.okS; decide)
  go_wp2_with fail
  refine C.mono ?_
  rintro e w7 ⟨tb_clu, vb_clu, vc_clu, vals, s_clu, rfl, hvl, ht, hb⟩
  clear C
  have HF_clu : Hid (str.TabIs w7 tb_clu vb_clu vals s_clu (lastV [] (cluL.map str.trip))) := ht
  have HB7 : Hid (Below w6.heap.size w6 w7) := hb
  have HE7 : Hid (Env w7) := HE6.out.below hb
  clear hb
  clear ht
  have HL_clu : Hid (vals = sV [] cluL) := hvl
  clear hvl
  generalize hl_clu : vals = vals_clu at *
  clear hl_clu
  generalize hm_clu : vals_clu.length = m_clu at *
  have HM_clu : Hid (vals_clu.length = m_clu) := hm_clu
  clear hm_clu HV_clu
  have C := HA_wor.out w7
  go_wp2_with fail
  refine C.mono ?_
  rintro e w0 ⟨rfl, hw0⟩
  rw [hw0]
  clear C hw0 w0
  have C := HR_wor.out w7 HE7.out
  go_wp2_with fail
  refine C.mono ?_
  rintro e w8 ⟨v_wor, rfl, hv, hb⟩
  clear C
  have HV_wor : Hid (View w8 v_wor (worL.map recOf)) := hv
  have HB8 : Hid (Below w7.heap.size w7 w8) := hb
  have HE8 : Hid (Env w8) := HE7.out.below hb
  clear hb
  obtain ⟨a_wor, c_wor, rfl, _⟩ := id hv
  clear hv
  have C := str.table_any _ worL [] w8 HV_wor.out wor_n.1 wor_n.2 wor_tfit (by unfold str.okS; decide)
  go_wp2_with fail
  refine C.mono ?_
  rintro e w9 ⟨tb_wor, vb_wor, vc_wor, vals, s_wor, rfl, hvl, ht, hb⟩
  clear C
  have HF_wor : Hid (str.TabIs w9 tb_wor vb_wor vals s_wor (lastV [] (worL.map str.trip))) := ht
  have HB9 : Hid (Below w8.heap.size w8 w9) := hb
  have HE9 : Hid (Env w9) := HE8.out.below hb
  clear hb
  clear ht
  have HL_wor : Hid (vals = sV [] worL) := hvl
  clear hvl
  generalize hl_wor : vals = vals_wor at *
  clear hl_wor
  generalize hm_wor : vals_wor.length = m_wor at *
  have HM_wor : Hid (vals_wor.length = m_wor) := hm_wor
  clear hm_wor HV_wor
  have C := HA_com.out w9
  go_wp2_with fail
  refine C.mono ?_
  rintro e w0 ⟨rfl, hw0⟩
  rw [hw0]
  clear C hw0 w0
  have C := HR_com.out w9 HE9.out
  go_wp2_with fail
  refine C.mono ?_
  rintro e w10 ⟨v_com, rfl, hv, hb⟩
  clear C
  have HV_com : Hid (View w10 v_com (comL.map recOf)) := hv
  have HB10 : Hid (Below w9.heap.size w9 w10) := hb
  have HE10 : Hid (Env w10) := HE9.out.below hb
  clear hb
  obtain ⟨a_com, c_com, rfl, _⟩ := id hv
  clear hv
  have C := num.table_any _ comL 0 w10 HV_com.out com_n.1 com_n.2 com_tfit (by unfold okI; decide)
  go_wp2_with fail
  refine C.mono ?_
  rintro e w11 ⟨tb_com, vb_com, vc_com, vals, s_com, rfl, _, ht, hb⟩
  clear C
  have HF_com : Hid (num.TabIs w11 tb_com vb_com vals s_com (lastV 0 (comL.map num.trip))) := ht
  have HB11 : Hid (Below w10.heap.size w10 w11) := hb
  have HE11 : Hid (Env w11) := HE10.out.below hb
  clear hb
  clear ht
  generalize hl_com : vals = vals_com at *
  clear hl_com
  generalize hm_com : vals_com.length = m_com at *
  have HM_com : Hid (vals_com.length = m_com) := hm_com
  clear hm_com HV_com
  have C := HA_dec.out w11
  go_wp2_with fail
  refine C.mono ?_
  rintro e w0 ⟨rfl, hw0⟩
  rw [hw0]
  clear C hw0 w0
  have C := HR_dec.out w11 HE11.out
  go_wp2_with fail
  refine C.mono ?_
  rintro e w12 ⟨v_dec, rfl, hv, hb⟩
  clear C
  have HV_dec : Hid (View w12 v_dec (decL.map recOf)) := hv
  have HB12 : Hid (Below w11.heap.size w11 w12) := hb
  have HE12 : Hid (Env w12) := HE11.out.below hb
  clear hb
  obtain ⟨a_dec, c_dec, rfl, _⟩ := id hv
  clear hv
  have C := parts_any _ decL w12 HE12.out HV_dec.out dec_n.1 dec_n.2 dec_fit
  go_wp2_with fail
  refine C.mono ?_
  rintro e w13 ⟨b_dec, rfl, ht, hb⟩
  clear C
  have HF_dec : Hid (LMap w13 b_dec 2000000 (lastG partsVal decL)) := ht
  have HB13 : Hid (Below w12.heap.size w12 w13) := hb
  have HE13 : Hid (Env w13) := HE12.out.below hb
  clear hb
  clear ht
  clear HV_dec
  have HVfC : Hid (View w13 _ (folL.map recOf)) := HV_fol.out.below (HB2.out.trans ((HB3.out.trans ((HB4.out.trans ((HB5.out.trans ((HB6.out.trans ((HB7.out.trans ((HB8.out.trans ((HB9.out.trans ((HB10.out.trans ((HB11.out.trans ((HB12.out.trans (HB13.out.mono HB12.out.size)).mono HB11.out.size)).mono HB10.out.size)).mono HB9.out.size)).mono HB8.out.size)).mono HB7.out.size)).mono HB6.out.size)).mono HB5.out.size)).mono HB4.out.size)).mono HB3.out.size)).mono HB2.out.size)) (Nat.le_refl _)
  have C := foldings_any _ folL [67] w13 HE13.out HVfC.out fol_n.1 fol_n.2 fol_fit fol_cp
  go_wp2_with fail
  refine C.mono ?_
  rintro e w14 ⟨b_fC, rfl, ht, hb⟩
  clear C
  have HF_fC : Hid (LMap w14 b_fC 2000000 (lastG (foldVal [67]) folL)) := ht
  have HB14 : Hid (Below w13.heap.size w13 w14) := hb
  have HE14 : Hid (Env w14) := HE13.out.below hb
  clear hb
  clear ht
  clear HVfC
  have HVfS : Hid (View w14 _ (folL.map recOf)) := HV_fol.out.below (HB2.out.trans ((HB3.out.trans ((HB4.out.trans ((HB5.out.trans ((HB6.out.trans ((HB7.out.trans ((HB8.out.trans ((HB9.out.trans ((HB10.out.trans ((HB11.out.trans ((HB12.out.trans ((HB13.out.trans (HB14.out.mono HB13.out.size)).mono HB12.out.size)).mono HB11.out.size)).mono HB10.out.size)).mono HB9.out.size)).mono HB8.out.size)).mono HB7.out.size)).mono HB6.out.size)).mono HB5.out.size)).mono HB4.out.size)).mono HB3.out.size)).mono HB2.out.size)) (Nat.le_refl _)
  have C := foldings_any _ folL [83] w14 HE14.out HVfS.out fol_n.1 fol_n.2 fol_fit fol_cp
  go_wp2_with fail
  refine C.mono ?_
  rintro e w15 ⟨b_fS, rfl, ht, hb⟩
  clear C
  have HF_fS : Hid (LMap w15 b_fS 2000000 (lastG (foldVal [83]) folL)) := ht
  have HB15 : Hid (Below w14.heap.size w14 w15) := hb
  have HE15 : Hid (Env w15) := HE14.out.below hb
  clear hb
  clear ht
  clear HVfS
  have HVfF : Hid (View w15 _ (folL.map recOf)) := HV_fol.out.below (HB2.out.trans ((HB3.out.trans ((HB4.out.trans ((HB5.out.trans ((HB6.out.trans ((HB7.out.trans ((HB8.out.trans ((HB9.out.trans ((HB10.out.trans ((HB11.out.trans ((HB12.out.trans ((HB13.out.trans ((HB14.out.trans (HB15.out.mono HB14.out.size)).mono HB13.out.size)).mono HB12.out.size)).mono HB11.out.size)).mono HB10.out.size)).mono HB9.out.size)).mono HB8.out.size)).mono HB7.out.size)).mono HB6.out.size)).mono HB5.out.size)).mono HB4.out.size)).mono HB3.out.size)).mono HB2.out.size)) (Nat.le_refl _)
  have C := foldings_any _ folL [70] w15 HE15.out HVfF.out fol_n.1 fol_n.2 fol_fit fol_cp
  go_wp2_with fail
  refine C.mono ?_
  rintro e w16 ⟨b_fF, rfl, ht, hb⟩
  clear C
  have HF_fF : Hid (LMap w16 b_fF 2000000 (lastG (foldVal [70]) folL)) := ht
  have HB16 : Hid (Below w15.heap.size w15 w16) := hb
  have HE16 : Hid (Env w16) := HE15.out.below hb
  clear hb
  clear ht
  clear HVfF
  go_wp2
  go_ret
  have HBX : Hid (Below w16.heap.size w16 (w16.alloc (.cells #[.pointer (some ⟨tb_cat, 0, none⟩), .slice (some ⟨vb_cat, 0, none⟩) m_cat vc_cat, .pointer (some ⟨tb_scr, 0, none⟩), .slice (some ⟨vb_scr, 0, none⟩) m_scr vc_scr, .pointer (some ⟨tb_clu, 0, none⟩), .slice (some ⟨vb_clu, 0, none⟩) m_clu vc_clu, .pointer (some ⟨tb_wor, 0, none⟩), .slice (some ⟨vb_wor, 0, none⟩) m_wor vc_wor, .pointer (some ⟨tb_com, 0, none⟩), .slice (some ⟨vb_com, 0, none⟩) m_com vc_com, .map (some b_dec), .map (some b_fC), .map (some b_fS), .map (some b_fF)] 34))) := (Below.refl _ w16).alloc (Nat.le_refl _) _
  have hcell : ∀ (i : Nat) (v : Value), (#[.pointer (some ⟨tb_cat, 0, none⟩), .slice (some ⟨vb_cat, 0, none⟩) m_cat vc_cat, .pointer (some ⟨tb_scr, 0, none⟩), .slice (some ⟨vb_scr, 0, none⟩) m_scr vc_scr, .pointer (some ⟨tb_clu, 0, none⟩), .slice (some ⟨vb_clu, 0, none⟩) m_clu vc_clu, .pointer (some ⟨tb_wor, 0, none⟩), .slice (some ⟨vb_wor, 0, none⟩) m_wor vc_wor, .pointer (some ⟨tb_com, 0, none⟩), .slice (some ⟨vb_com, 0, none⟩) m_com vc_com, .map (some b_dec), .map (some b_fC), .map (some b_fS), .map (some b_fF)] : Array Value)[i]? = some v → (w16.alloc (.cells #[.pointer (some ⟨tb_cat, 0, none⟩), .slice (some ⟨vb_cat, 0, none⟩) m_cat vc_cat, .pointer (some ⟨tb_scr, 0, none⟩), .slice (some ⟨vb_scr, 0, none⟩) m_scr vc_scr, .pointer (some ⟨tb_clu, 0, none⟩), .slice (some ⟨vb_clu, 0, none⟩) m_clu vc_clu, .pointer (some ⟨tb_wor, 0, none⟩), .slice (some ⟨vb_wor, 0, none⟩) m_wor vc_wor, .pointer (some ⟨tb_com, 0, none⟩), .slice (some ⟨vb_com, 0, none⟩) m_com vc_com, .map (some b_dec), .map (some b_fC), .map (some b_fS), .map (some b_fF)] 34)).cell? ⟨w16.heap.size, i, none⟩ = some v := fun i v hi => (cell_of_row _ _ i _ _ _ (World.alloc_heap_new _ _)).trans hi
  have t_cat : StrTab (w16.alloc (.cells #[.pointer (some ⟨tb_cat, 0, none⟩), .slice (some ⟨vb_cat, 0, none⟩) m_cat vc_cat, .pointer (some ⟨tb_scr, 0, none⟩), .slice (some ⟨vb_scr, 0, none⟩) m_scr vc_scr, .pointer (some ⟨tb_clu, 0, none⟩), .slice (some ⟨vb_clu, 0, none⟩) m_clu vc_clu, .pointer (some ⟨tb_wor, 0, none⟩), .slice (some ⟨vb_wor, 0, none⟩) m_wor vc_wor, .pointer (some ⟨tb_com, 0, none⟩), .slice (some ⟨vb_com, 0, none⟩) m_com vc_com, .map (some b_dec), .map (some b_fC), .map (some b_fS), .map (some b_fF)] 34)) w16.heap.size 0 1 [67, 110] catL := ⟨tb_cat, vb_cat, vc_cat, s_cat, hcell 0 _ rfl, by rw [← HL_cat.out, HM_cat.out]; exact hcell 1 _ rfl, by rw [← HL_cat.out]; exact HF_cat.out.below (HB4.out.trans ((HB5.out.trans ((HB6.out.trans ((HB7.out.trans ((HB8.out.trans ((HB9.out.trans ((HB10.out.trans ((HB11.out.trans ((HB12.out.trans ((HB13.out.trans ((HB14.out.trans ((HB15.out.trans ((HB16.out.trans ((HBX.out).mono HB16.out.size)).mono HB15.out.size)).mono HB14.out.size)).mono HB13.out.size)).mono HB12.out.size)).mono HB11.out.size)).mono HB10.out.size)).mono HB9.out.size)).mono HB8.out.size)).mono HB7.out.size)).mono HB6.out.size)).mono HB5.out.size)).mono HB4.out.size))⟩
  have t_scr : StrTab (w16.alloc (.cells #[.pointer (some ⟨tb_cat, 0, none⟩), .slice (some ⟨vb_cat, 0, none⟩) m_cat vc_cat, .pointer (some ⟨tb_scr, 0, none⟩), .slice (some ⟨vb_scr, 0, none⟩) m_scr vc_scr, .pointer (some ⟨tb_clu, 0, none⟩), .slice (some ⟨vb_clu, 0, none⟩) m_clu vc_clu, .pointer (some ⟨tb_wor, 0, none⟩), .slice (some ⟨vb_wor, 0, none⟩) m_wor vc_wor, .pointer (some ⟨tb_com, 0, none⟩), .slice (some ⟨vb_com, 0, none⟩) m_com vc_com, .map (some b_dec), .map (some b_fC), .map (some b_fS), .map (some b_fF)] 34)) w16.heap.size 2 3 [90, 122, 122, 122] scrL := ⟨tb_scr, vb_scr, vc_scr, s_scr, hcell 2 _ rfl, by rw [← HL_scr.out, HM_scr.out]; exact hcell 3 _ rfl, by rw [← HL_scr.out]; exact HF_scr.out.below (HB6.out.trans ((HB7.out.trans ((HB8.out.trans ((HB9.out.trans ((HB10.out.trans ((HB11.out.trans ((HB12.out.trans ((HB13.out.trans ((HB14.out.trans ((HB15.out.trans ((HB16.out.trans ((HBX.out).mono HB16.out.size)).mono HB15.out.size)).mono HB14.out.size)).mono HB13.out.size)).mono HB12.out.size)).mono HB11.out.size)).mono HB10.out.size)).mono HB9.out.size)).mono HB8.out.size)).mono HB7.out.size)).mono HB6.out.size))⟩
  have t_clu : StrTab (w16.alloc (.cells #[.pointer (some ⟨tb_cat, 0, none⟩), .slice (some ⟨vb_cat, 0, none⟩) m_cat vc_cat, .pointer (some ⟨tb_scr, 0, none⟩), .slice (some ⟨vb_scr, 0, none⟩) m_scr vc_scr, .pointer (some ⟨tb_clu, 0, none⟩), .slice (some ⟨vb_clu, 0, none⟩) m_clu vc_clu, .pointer (some ⟨tb_wor, 0, none⟩), .slice (some ⟨vb_wor, 0, none⟩) m_wor vc_wor, .pointer (some ⟨tb_com, 0, none⟩), .slice (some ⟨vb_com, 0, none⟩) m_com vc_com, .map (some b_dec), .map (some b_fC), .map (some b_fS), .map (some b_fF)] 34)) w16.heap.size 4 5 [] cluL := ⟨tb_clu, vb_clu, vc_clu, s_clu, hcell 4 _ rfl, by rw [← HL_clu.out, HM_clu.out]; exact hcell 5 _ rfl, by rw [← HL_clu.out]; exact HF_clu.out.below (HB8.out.trans ((HB9.out.trans ((HB10.out.trans ((HB11.out.trans ((HB12.out.trans ((HB13.out.trans ((HB14.out.trans ((HB15.out.trans ((HB16.out.trans ((HBX.out).mono HB16.out.size)).mono HB15.out.size)).mono HB14.out.size)).mono HB13.out.size)).mono HB12.out.size)).mono HB11.out.size)).mono HB10.out.size)).mono HB9.out.size)).mono HB8.out.size))⟩
  have t_wor : StrTab (w16.alloc (.cells #[.pointer (some ⟨tb_cat, 0, none⟩), .slice (some ⟨vb_cat, 0, none⟩) m_cat vc_cat, .pointer (some ⟨tb_scr, 0, none⟩), .slice (some ⟨vb_scr, 0, none⟩) m_scr vc_scr, .pointer (some ⟨tb_clu, 0, none⟩), .slice (some ⟨vb_clu, 0, none⟩) m_clu vc_clu, .pointer (some ⟨tb_wor, 0, none⟩), .slice (some ⟨vb_wor, 0, none⟩) m_wor vc_wor, .pointer (some ⟨tb_com, 0, none⟩), .slice (some ⟨vb_com, 0, none⟩) m_com vc_com, .map (some b_dec), .map (some b_fC), .map (some b_fS), .map (some b_fF)] 34)) w16.heap.size 6 7 [] worL := ⟨tb_wor, vb_wor, vc_wor, s_wor, hcell 6 _ rfl, by rw [← HL_wor.out, HM_wor.out]; exact hcell 7 _ rfl, by rw [← HL_wor.out]; exact HF_wor.out.below (HB10.out.trans ((HB11.out.trans ((HB12.out.trans ((HB13.out.trans ((HB14.out.trans ((HB15.out.trans ((HB16.out.trans ((HBX.out).mono HB16.out.size)).mono HB15.out.size)).mono HB14.out.size)).mono HB13.out.size)).mono HB12.out.size)).mono HB11.out.size)).mono HB10.out.size))⟩
  have t_com : NumTab (w16.alloc (.cells #[.pointer (some ⟨tb_cat, 0, none⟩), .slice (some ⟨vb_cat, 0, none⟩) m_cat vc_cat, .pointer (some ⟨tb_scr, 0, none⟩), .slice (some ⟨vb_scr, 0, none⟩) m_scr vc_scr, .pointer (some ⟨tb_clu, 0, none⟩), .slice (some ⟨vb_clu, 0, none⟩) m_clu vc_clu, .pointer (some ⟨tb_wor, 0, none⟩), .slice (some ⟨vb_wor, 0, none⟩) m_wor vc_wor, .pointer (some ⟨tb_com, 0, none⟩), .slice (some ⟨vb_com, 0, none⟩) m_com vc_com, .map (some b_dec), .map (some b_fC), .map (some b_fS), .map (some b_fF)] 34)) w16.heap.size 8 9 comL := ⟨tb_com, vb_com, vc_com, vals_com, s_com, hcell 8 _ rfl, by rw [HM_com.out]; exact hcell 9 _ rfl, HF_com.out.below (HB12.out.trans ((HB13.out.trans ((HB14.out.trans ((HB15.out.trans ((HB16.out.trans ((HBX.out).mono HB16.out.size)).mono HB15.out.size)).mono HB14.out.size)).mono HB13.out.size)).mono HB12.out.size))⟩
  exact ⟨w16.heap.size, rfl, ⟨t_cat, t_scr, t_clu, t_wor, t_com, ⟨b_dec, hcell 10 _ rfl, HF_dec.out.below (HB14.out.trans ((HB15.out.trans ((HB16.out.trans ((HBX.out).mono HB16.out.size)).mono HB15.out.size)).mono HB14.out.size))⟩, ⟨b_fC, hcell 11 _ rfl, HF_fC.out.below (HB15.out.trans ((HB16.out.trans ((HBX.out).mono HB16.out.size)).mono HB15.out.size))⟩, ⟨b_fS, hcell 12 _ rfl, HF_fS.out.below (HB16.out.trans ((HBX.out).mono HB16.out.size))⟩, ⟨b_fF, hcell 13 _ rfl, HF_fF.out.below (HBX.out)⟩⟩, (HB1.out.trans ((HB2.out.trans ((HB3.out.trans ((HB4.out.trans ((HB5.out.trans ((HB6.out.trans ((HB7.out.trans ((HB8.out.trans ((HB9.out.trans ((HB10.out.trans ((HB11.out.trans ((HB12.out.trans ((HB13.out.trans ((HB14.out.trans ((HB15.out.trans ((HB16.out.trans ((HBX.out).mono HB16.out.size)).mono HB15.out.size)).mono HB14.out.size)).mono HB13.out.size)).mono HB12.out.size)).mono HB11.out.size)).mono HB10.out.size)).mono HB9.out.size)).mono HB8.out.size)).mono HB7.out.size)).mono HB6.out.size)).mono HB5.out.size)).mono HB4.out.size)).mono HB3.out.size)).mono HB2.out.size)).mono HB1.out.size))⟩
end Go.Proofs.YtbdojobplhpnbabGreatDoor.prp
end

section
/- What the tables tell of a code point. -/
set_option linter.unusedVariables false
set_option linter.unusedSimpArgs false
namespace Go.Proofs.YtbdojobplhpnbabGreatDoor.prp
open Go.RowKit Go.Maps lin

/-- Tables that no call made. -/
def Unmade (w : World) (v : Value) : Prop := v = .pointer none ∨ ∃ t, v = .pointer (some ⟨t, 0, none⟩) ∧ w.cell? ⟨t, 0, none⟩ = some (.pointer none)
theorem Unmade.below {w w' : World} {v : Value} (h : Unmade w v) (hb : Below w.heap.size w w') : Unmade w' v := by
  rcases h with h | ⟨t, h1, h2⟩
  · exact .inl h
  · exact .inr ⟨t, h1, cell_below hb h2⟩
set_option maxRecDepth 1000000 in
theorem made_no (v : Value) (w : World) (h : Unmade w v) : Calls Tryz.prog 31 #[v] w fun e w' => e = .returned (.bool false) ∧ w' = w := by
  rcases h with rfl | ⟨t, rfl, h⟩
  · go_enter Tryz.func31, Tryz.ntmps31
    go_wp2
    go_ret
    exact ⟨rfl, rfl⟩
  · go_enter Tryz.func31, Tryz.ntmps31
    go_wp2
    go_ret
    exact ⟨rfl, rfl⟩
set_option maxRecDepth 1000000 in
theorem made_yes (t tb : Nat) (w : World) (h : w.cell? ⟨t, 0, none⟩ = some (.pointer (some ⟨tb, 0, none⟩))) : Calls Tryz.prog 31 #[.pointer (some ⟨t, 0, none⟩)] w fun e w' => e = .returned (.bool true) ∧ w' = w := by
  go_enter Tryz.func31, Tryz.ntmps31
  go_wp2
  go_ret
  exact ⟨rfl, rfl⟩
theorem made_t (t : Nat) (w : World) (h : Tabs w t) : Calls Tryz.prog 31 #[.pointer (some ⟨t, 0, none⟩)] w fun e w' => e = .returned (.bool true) ∧ w' = w := by
  obtain ⟨tb, vb, vc, s, h1, _⟩ := h.cat
  exact made_yes t tb w h1

set_option maxRecDepth 1000000 in
theorem category_t (t : Nat) (r : Int) (w : World) (h : Tabs w t) : Calls Tryz.prog 10 #[.pointer (some ⟨t, 0, none⟩), .int .i64 r] w fun e w' => e = .returned (.string (BA (sF [67, 110] catL r))) ∧ Below w.heap.size w w' := by
  have C := made_t t w h
  obtain ⟨tb, vb, vc, s, c0, c1, ht⟩ := h.cat
  have D := str.of_any tb vb vc _ s _ r w ht
  clear h ht
  generalize sF [67, 110] catL r = X at *
  generalize hm : (sV _ _).length = m at *
  clear hm
  go_enter Tryz.func10, Tryz.ntmps10
  go_wp2_with fail
  refine C.mono ?_
  rintro e w1 ⟨rfl, hw⟩
  rw [hw]
  clear C hw
  go_wp2_with fail
  refine D.mono ?_
  rintro e w2 ⟨rfl, hb⟩
  clear D
  go_wp2
  go_ret
  exact ⟨rfl, hb⟩
set_option maxRecDepth 1000000 in
theorem category_no (v : Value) (r : Int) (w : World) (h : Unmade w v) : Calls Tryz.prog 10 #[v, .int .i64 r] w fun e w' => e = .returned (.string ⟨#[]⟩) ∧ w' = w := by
  have C := made_no v w h
  go_enter Tryz.func10, Tryz.ntmps10
  go_wp2_with fail
  refine C.mono ?_
  rintro e w1 ⟨rfl, hw⟩
  rw [hw]
  go_wp2
  go_ret
  exact ⟨rfl, rfl⟩

/-- The break of clusters. -/
def clF (r : Int) : List UInt8 := if r < 44032 ∨ 55203 < r then sF [] cluL r else if (r - 44032) % 28 = 0 then [76, 86] else [76, 86, 84]
set_option maxRecDepth 1000000 in
theorem cluster_t (t : Nat) (r : Int) (w : World) (h : Tabs w t) : Calls Tryz.prog 33 #[.pointer (some ⟨t, 0, none⟩), .int .i64 r] w fun e w' => e = .returned (.string (BA (clF r))) ∧ Below w.heap.size w w' := by
  have C := made_t t w h
  obtain ⟨tb, vb, vc, s, c0, c1, ht⟩ := h.clu
  have D := str.of_any tb vb vc _ s _ r w ht
  clear h ht
  by_cases h1 : r < 44032
  · have e1 : clF r = sF [] cluL r := by unfold clF; rw [if_pos (.inl h1)]
    rw [e1]
    clear e1
    generalize sF [] cluL r = X at *
    generalize hm : (sV _ _).length = m at *
    clear hm
    go_enter Tryz.func33, Tryz.ntmps33
    go_wp2_with fail
    refine C.mono ?_
    rintro e w1 ⟨rfl, hw⟩
    rw [hw]
    clear C hw
    go_wp2_with fail
    refine D.mono ?_
    rintro e w2 ⟨rfl, hb⟩
    clear D
    go_wp2
    go_ret
    exact ⟨rfl, hb⟩
  · by_cases h2 : 55203 < r
    · have e1 : clF r = sF [] cluL r := by unfold clF; rw [if_pos (.inr h2)]
      rw [e1]
      clear e1
      generalize sF [] cluL r = X at *
      generalize hm : (sV _ _).length = m at *
      clear hm
      go_enter Tryz.func33, Tryz.ntmps33
      go_wp2_with fail
      refine C.mono ?_
      rintro e w1 ⟨rfl, hw⟩
      rw [hw]
      clear C hw
      go_wp2_with fail
      refine D.mono ?_
      rintro e w2 ⟨rfl, hb⟩
      clear D
      go_wp2
      go_ret
      exact ⟨rfl, hb⟩
    · clear D c0 c1
      have wx : IntKind.i64.wrap (r - 44032) = r - 44032 := by rw [IntKind.wrap_i64]; omega
      have tm : Int.tmod (r - 44032) 28 = (r - 44032) % 28 := Int.tmod_eq_emod_of_nonneg (by omega)
      have wy : IntKind.i64.wrap ((r - 44032) % 28) = (r - 44032) % 28 := by rw [IntKind.wrap_i64]; omega
      by_cases h3 : (r - 44032) % 28 = 0
      · have e1 : clF r = [76, 86] := by unfold clF; rw [if_neg (by omega), if_pos h3]
        have b1 : ((r - 44032) % 28 == 0) = true := by rw [h3]; rfl
        rw [e1]
        clear e1
        go_enter Tryz.func33, Tryz.ntmps33
        go_wp2_with fail
        refine C.mono ?_
        rintro e w1 ⟨rfl, hw⟩
        rw [hw]
        clear C hw
        go_wp2
        go_ret
        exact ⟨rfl, Below.refl _ _⟩
      · have e1 : clF r = [76, 86, 84] := by unfold clF; rw [if_neg (by omega), if_neg h3]
        have b1 : ((r - 44032) % 28 == 0) = false := beq_eq_false_iff_ne.2 h3
        rw [e1]
        clear e1
        go_enter Tryz.func33, Tryz.ntmps33
        go_wp2_with fail
        refine C.mono ?_
        rintro e w1 ⟨rfl, hw⟩
        rw [hw]
        clear C hw
        go_wp2
        go_ret
        exact ⟨rfl, Below.refl _ _⟩
set_option maxRecDepth 1000000 in
theorem cluster_no (v : Value) (r : Int) (w : World) (h : Unmade w v) : Calls Tryz.prog 33 #[v, .int .i64 r] w fun e w' => e = .returned (.string ⟨#[]⟩) ∧ w' = w := by
  have C := made_no v w h
  go_enter Tryz.func33, Tryz.ntmps33
  go_wp2_with fail
  refine C.mono ?_
  rintro e w1 ⟨rfl, hw⟩
  rw [hw]
  go_wp2
  go_ret
  exact ⟨rfl, rfl⟩

end Go.Proofs.YtbdojobplhpnbabGreatDoor.prp
end
