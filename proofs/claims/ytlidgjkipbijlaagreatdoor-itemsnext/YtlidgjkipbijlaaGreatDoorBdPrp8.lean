/- Texts that the proof leans on, one behind the other. -/
import Derived.Test.YtlidgjkipbijlaaGreatDoorBdPrp7
import Derived.Test.YtlidgjkipbijlaaGreatDoorBdNam1
import Derived.Deep.AppendLies

section
/- rubricatorref06.Load: the document's tables in memory. -/
set_option linter.unusedVariables false
set_option linter.unusedSimpArgs false
namespace Go.Proofs.YtlidgjkipbijlaaGreatDoor.prp
open Go.RowKit Go.Maps lin

theorem infoInts : (Tryz.prog.info? 35).map (fun i => (i.zero, i.size, i.bytes)) = some (some (.slice none 0 0), 1, 24) := by kernel_rfl
theorem dec_get {k : Nat} {x : RL} (h : decL[k]? = some x) : decR.take (k + 1) = decR.take k ++ [rcp x 0] := by unfold decR; rw [List.take_add_one, List.getElem?_map, h]; rfl
theorem fol_get {k : Nat} {x : RL} (h : folL[k]? = some x) : folR.take (k + 1) = folR.take k ++ [rcp x 1] := by unfold folR; rw [List.take_add_one, List.getElem?_map, h]; rfl
theorem pastA (w : World) (o : Obj) (a : Addr) (h : a.block < w.heap.size) : (w.alloc o).cell? a = w.cell? a := ((Below.refl w.heap.size w).alloc (Nat.le_refl _) o).cell (p := a) h
theorem below_alike {w W : World} {n : Nat} {X : World} (h : Below n w X) (h1 : W.heap = X.heap) (h2 : W.os = X.os) (h3 : W.tape = X.tape) (h4 : W.output = X.output) : Below n w W := ⟨h2.trans h.os, h3.trans h.tape, h4.trans h.output, by rw [h1]; exact h.size, fun k hk => by rw [h1]; exact h.block k hk⟩
set_option maxHeartbeats 8000000 in
set_option maxRecDepth 1000000 in
theorem rload_any (w : World) :
    Calls Tryz.prog 25 #[] w fun e w' => ∃ t, e = .returned (.pointer (some ⟨t, 0, none⟩)) ∧ RTabs w' t ∧ Below w.heap.size w w' := by
  obtain ⟨i0, hi, hz0, hy1, hz2⟩ := info_parts infoInts
  have HR_cat : Hid (∀ W, Calls Tryz.prog 38 #[.string catB] W fun e w' => ∃ v, e = .returned v ∧ View w' v (catL.map recOf) ∧ Below W.heap.size W w') := fun W => rrecords_any catB catL W cat_parse cat_size
  have HA_cat : Hid (∀ W, Calls Tryz.prog 39 #[] W fun e w' => e = .returned (.string catB) ∧ w' = W) := fun W => cat_any W
  have HR_com : Hid (∀ W, Calls Tryz.prog 38 #[.string comB] W fun e w' => ∃ v, e = .returned v ∧ View w' v (comL.map recOf) ∧ Below W.heap.size W w') := fun W => rrecords_any comB comL W com_parse com_size
  have HA_com : Hid (∀ W, Calls Tryz.prog 40 #[] W fun e w' => e = .returned (.string comB) ∧ w' = W) := fun W => com_any W
  have HR_clu : Hid (∀ W, Calls Tryz.prog 38 #[.string cluB] W fun e w' => ∃ v, e = .returned v ∧ View w' v (cluL.map recOf) ∧ Below W.heap.size W w') := fun W => rrecords_any cluB cluL W clu_parse clu_size
  have HA_clu : Hid (∀ W, Calls Tryz.prog 41 #[] W fun e w' => e = .returned (.string cluB) ∧ w' = W) := fun W => clu_any W
  have HR_wor : Hid (∀ W, Calls Tryz.prog 38 #[.string worB] W fun e w' => ∃ v, e = .returned v ∧ View w' v (worL.map recOf) ∧ Below W.heap.size W w') := fun W => rrecords_any worB worL W wor_parse wor_size
  have HA_wor : Hid (∀ W, Calls Tryz.prog 42 #[] W fun e w' => e = .returned (.string worB) ∧ w' = W) := fun W => wor_any W
  have HR_scr : Hid (∀ W, Calls Tryz.prog 38 #[.string scrB] W fun e w' => ∃ v, e = .returned v ∧ View w' v (scrL.map recOf) ∧ Below W.heap.size W w') := fun W => rrecords_any scrB scrL W scr_parse scr_size
  have HA_scr : Hid (∀ W, Calls Tryz.prog 43 #[] W fun e w' => e = .returned (.string scrB) ∧ w' = W) := fun W => scr_any W
  have HR_dec : Hid (∀ W, Calls Tryz.prog 38 #[.string decB] W fun e w' => ∃ v, e = .returned v ∧ View w' v (decL.map recOf) ∧ Below W.heap.size W w') := fun W => rrecords_any decB decL W dec_parse dec_size
  have HA_dec : Hid (∀ W, Calls Tryz.prog 44 #[] W fun e w' => e = .returned (.string decB) ∧ w' = W) := fun W => dec_any W
  have HR_fol : Hid (∀ W, Calls Tryz.prog 38 #[.string folB] W fun e w' => ∃ v, e = .returned v ∧ View w' v (folL.map recOf) ∧ Below W.heap.size W w') := fun W => rrecords_any folB folL W fol_parse fol_size
  have HA_fol : Hid (∀ W, Calls Tryz.prog 45 #[] W fun e w' => e = .returned (.string folB) ∧ w' = W) := fun W => fol_any W
  have HPT : Hid (∀ (f : List UInt8) (W : World), f.length ≤ 1000 → Calls Tryz.prog 46 #[.string (BA f)] W fun e w' => ∃ v, e = .returned v ∧ IOwn w' W.heap.size v (pts ((spl [] f).map BA)) ∧ Below W.heap.size W w') := fun f W hf => points_any (BA f) W (by rw [BA_size]; exact hf)
  have HDO : Hid (∀ (k : Nat) (x : RL), decL[k]? = some x → ∃ f, x.2.2[0]? = some f ∧ f.length ≤ 1000 ∧ rcp x 0 = pts ((spl [] f).map BA) ∧ (0 : Int) < (x.2.2.length : Int)) := fun k x hx => by
    obtain ⟨h1, h2⟩ := dec_ok.2.2 x (List.mem_of_getElem? hx)
    have e : x.2.2.getD 0 [] = x.2.2[0] := by rw [List.getD_eq_getElem?_getD, List.getElem?_eq_getElem h1, Option.getD_some]
    exact ⟨_, List.getElem?_eq_getElem h1, by rw [← e]; exact h2, by unfold rcp; rw [e], by omega⟩
  have HFO : Hid (∀ (k : Nat) (x : RL), folL[k]? = some x → ∃ f, x.2.2[1]? = some f ∧ f.length ≤ 1000 ∧ rcp x 1 = pts ((spl [] f).map BA) ∧ (1 : Int) < (x.2.2.length : Int)) := fun k x hx => by
    obtain ⟨h1, h2⟩ := fol_ok.2.2 x (List.mem_of_getElem? hx)
    have e : x.2.2.getD 1 [] = x.2.2[1] := by rw [List.getD_eq_getElem?_getD, List.getElem?_eq_getElem h1, Option.getD_some]
    exact ⟨_, List.getElem?_eq_getElem h1, by rw [← e]; exact h2, by unfold rcp; rw [e], by omega⟩
  have HLD : Hid (decL.length ≤ 1000 ∧ decR.length = decL.length ∧ 0 < decL.length) := ⟨dec_ok.2.1, by unfold decR; rw [List.length_map], dec_ok.1⟩
  have HLF : Hid (folL.length ≤ 1000 ∧ folR.length = folL.length ∧ 0 < folL.length) := ⟨fol_ok.2.1, by unfold folR; rw [List.length_map], fol_ok.1⟩
  generalize hrcat : catB = catX at *
  clear hrcat
  generalize hrcom : comB = comX at *
  clear hrcom
  generalize hrclu : cluB = cluX at *
  clear hrclu
  generalize hrwor : worB = worX at *
  clear hrwor
  generalize hrscr : scrB = scrX at *
  clear hrscr
  generalize hrdec : decB = decX at *
  clear hrdec
  generalize hrfol : folB = folX at *
  clear hrfol
  go_enter Tryz.func25, Tryz.ntmps25
  have C := HA_cat.out w
  go_wp2_with fail
  refine C.mono ?_
  rintro e w0 ⟨rfl, hw0⟩
  rw [hw0]
  clear C hw0 w0
  have C := HR_cat.out w
  go_wp2_with fail
  refine C.mono ?_
  rintro e w1 ⟨v_cat, rfl, hv, hb⟩
  clear C HR_cat HA_cat
  have HV_cat : Hid (View w1 v_cat (catL.map recOf)) := hv
  have HB1 : Hid (Below w.heap.size w w1) := hb
  obtain ⟨a_cat, c_cat, rfl, _⟩ := id hv
  generalize (catL.map recOf).length = n_cat at *
  clear hv hb
  have C := HA_com.out w1
  go_wp2_with fail
  refine C.mono ?_
  rintro e w0 ⟨rfl, hw0⟩
  rw [hw0]
  clear C hw0 w0
  have C := HR_com.out w1
  go_wp2_with fail
  refine C.mono ?_
  rintro e w2 ⟨v_com, rfl, hv, hb⟩
  clear C HR_com HA_com
  have HV_com : Hid (View w2 v_com (comL.map recOf)) := hv
  have HB2 : Hid (Below w1.heap.size w1 w2) := hb
  obtain ⟨a_com, c_com, rfl, _⟩ := id hv
  generalize (comL.map recOf).length = n_com at *
  clear hv hb
  have C := HA_clu.out w2
  go_wp2_with fail
  refine C.mono ?_
  rintro e w0 ⟨rfl, hw0⟩
  rw [hw0]
  clear C hw0 w0
  have C := HR_clu.out w2
  go_wp2_with fail
  refine C.mono ?_
  rintro e w3 ⟨v_clu, rfl, hv, hb⟩
  clear C HR_clu HA_clu
  have HV_clu : Hid (View w3 v_clu (cluL.map recOf)) := hv
  have HB3 : Hid (Below w2.heap.size w2 w3) := hb
  obtain ⟨a_clu, c_clu, rfl, _⟩ := id hv
  generalize (cluL.map recOf).length = n_clu at *
  clear hv hb
  have C := HA_wor.out w3
  go_wp2_with fail
  refine C.mono ?_
  rintro e w0 ⟨rfl, hw0⟩
  rw [hw0]
  clear C hw0 w0
  have C := HR_wor.out w3
  go_wp2_with fail
  refine C.mono ?_
  rintro e w4 ⟨v_wor, rfl, hv, hb⟩
  clear C HR_wor HA_wor
  have HV_wor : Hid (View w4 v_wor (worL.map recOf)) := hv
  have HB4 : Hid (Below w3.heap.size w3 w4) := hb
  obtain ⟨a_wor, c_wor, rfl, _⟩ := id hv
  generalize (worL.map recOf).length = n_wor at *
  clear hv hb
  have C := HA_scr.out w4
  go_wp2_with fail
  refine C.mono ?_
  rintro e w0 ⟨rfl, hw0⟩
  rw [hw0]
  clear C hw0 w0
  have C := HR_scr.out w4
  go_wp2_with fail
  refine C.mono ?_
  rintro e w5 ⟨v_scr, rfl, hv, hb⟩
  clear C HR_scr HA_scr
  have HV_scr : Hid (View w5 v_scr (scrL.map recOf)) := hv
  have HB5 : Hid (Below w4.heap.size w4 w5) := hb
  obtain ⟨a_scr, c_scr, rfl, _⟩ := id hv
  generalize (scrL.map recOf).length = n_scr at *
  clear hv hb
  have C := HA_dec.out w5
  go_wp2_with fail
  refine C.mono ?_
  rintro e w0 ⟨rfl, hw0⟩
  rw [hw0]
  clear C hw0 w0
  have C := HR_dec.out w5
  go_wp2_with fail
  refine C.mono ?_
  rintro e w6 ⟨v_dec, rfl, hv, hb⟩
  clear C HR_dec HA_dec
  have HV_dec : Hid (View w6 v_dec (decL.map recOf)) := hv
  have HB6 : Hid (Below w5.heap.size w5 w6) := hb
  obtain ⟨rb_dec, ro_dec, rc_dec, rfl, hrec⟩ := view_recs hv dec_ok.1
  have HREC_dec : Hid (∀ (i : Nat) (r : RL), decL[i]? = some r → ∃ g o2 c2, RecM w6 rb_dec (ro_dec + i * 3) r g o2 c2) := hrec
  clear hrec
  generalize hn_dec : decL.length = n_dec at *
  have HN_dec : Hid (decL.length = n_dec) := hn_dec
  clear hn_dec
  clear hv hb
  have C := HA_fol.out w6
  go_wp2_with fail
  refine C.mono ?_
  rintro e w0 ⟨rfl, hw0⟩
  rw [hw0]
  clear C hw0 w0
  have C := HR_fol.out w6
  go_wp2_with fail
  refine C.mono ?_
  rintro e w7 ⟨v_fol, rfl, hv, hb⟩
  clear C HR_fol HA_fol
  have HV_fol : Hid (View w7 v_fol (folL.map recOf)) := hv
  have HB7 : Hid (Below w6.heap.size w6 w7) := hb
  obtain ⟨rb_fol, ro_fol, rc_fol, rfl, hrec⟩ := view_recs hv fol_ok.1
  have HREC_fol : Hid (∀ (i : Nat) (r : RL), folL[i]? = some r → ∃ g o2 c2, RecM w7 rb_fol (ro_fol + i * 3) r g o2 c2) := hrec
  clear hrec
  generalize hn_fol : folL.length = n_fol at *
  have HN_fol : Hid (folL.length = n_fol) := hn_fol
  clear hn_fol
  clear hv hb
  have HW_cat : Hid (View w7 (.slice a_cat n_cat c_cat) (catL.map recOf)) := HV_cat.out.below (HB2.out.trans ((HB3.out.trans ((HB4.out.trans ((HB5.out.trans ((HB6.out.trans (HB7.out.mono HB6.out.size)).mono HB5.out.size)).mono HB4.out.size)).mono HB3.out.size)).mono HB2.out.size)) (Nat.le_refl _)
  have HW_com : Hid (View w7 (.slice a_com n_com c_com) (comL.map recOf)) := HV_com.out.below (HB3.out.trans ((HB4.out.trans ((HB5.out.trans ((HB6.out.trans (HB7.out.mono HB6.out.size)).mono HB5.out.size)).mono HB4.out.size)).mono HB3.out.size)) (Nat.le_refl _)
  have HW_clu : Hid (View w7 (.slice a_clu n_clu c_clu) (cluL.map recOf)) := HV_clu.out.below (HB4.out.trans ((HB5.out.trans ((HB6.out.trans (HB7.out.mono HB6.out.size)).mono HB5.out.size)).mono HB4.out.size)) (Nat.le_refl _)
  have HW_wor : Hid (View w7 (.slice a_wor n_wor c_wor) (worL.map recOf)) := HV_wor.out.below (HB5.out.trans ((HB6.out.trans (HB7.out.mono HB6.out.size)).mono HB5.out.size)) (Nat.le_refl _)
  have HW_scr : Hid (View w7 (.slice a_scr n_scr c_scr) (scrL.map recOf)) := HV_scr.out.below (HB6.out.trans (HB7.out.mono HB6.out.size)) (Nat.le_refl _)
  have HW_dec : Hid (View w7 (.slice (some ⟨rb_dec, ro_dec, none⟩) n_dec rc_dec) (decL.map recOf)) := HV_dec.out.below HB7.out (Nat.le_refl _)
  have HW_fol : Hid (View w7 (.slice (some ⟨rb_fol, ro_fol, none⟩) n_fol rc_fol) (folL.map recOf)) := HV_fol.out
  have HRD : Hid (∀ (i : Nat) (r : RL), decL[i]? = some r → ∃ g o2 c2, RecM w7 rb_dec (ro_dec + i * 3) r g o2 c2) := fun i r hr => by
    obtain ⟨g, o2, c2, h⟩ := HREC_dec.out i r hr
    exact ⟨g, o2, c2, h.below HB7.out⟩
  have HBA : Hid (Below w.heap.size w w7) := (HB1.out.trans ((HB2.out.trans ((HB3.out.trans ((HB4.out.trans ((HB5.out.trans ((HB6.out.trans (HB7.out.mono HB6.out.size)).mono HB5.out.size)).mono HB4.out.size)).mono HB3.out.size)).mono HB2.out.size)).mono HB1.out.size))
  clear HV_cat HV_com HV_clu HV_wor HV_scr HV_dec HV_fol HREC_dec HB1 HB2 HB3 HB4 HB5 HB6 HB7
  go_wp2
  obtain ⟨W8, hW8⟩ : ∃ W8, w7.alloc (.cells #[.slice a_cat n_cat c_cat, .slice a_com n_com c_com, .slice a_clu n_clu c_clu, .slice a_wor n_wor c_wor, .slice a_scr n_scr c_scr, .slice (some ⟨rb_dec, ro_dec, none⟩) n_dec rc_dec, .slice (some ⟨rb_fol, ro_fol, none⟩) n_fol rc_fol, .slice none 0 0, .slice none 0 0] 79) = W8 := ⟨_, rfl⟩
  have HTB : Hid (TB W8 w7.heap.size #[.slice a_cat n_cat c_cat, .slice a_com n_com c_com, .slice a_clu n_clu c_clu, .slice a_wor n_wor c_wor, .slice a_scr n_scr c_scr, .slice (some ⟨rb_dec, ro_dec, none⟩) n_dec rc_dec, .slice (some ⟨rb_fol, ro_fol, none⟩) n_fol rc_fol, .slice none 0 0, .slice none 0 0]) := by unfold Hid; rw [← hW8]; exact World.alloc_heap_new _ _
  have HLO : Hid (Below w7.heap.size w7 W8) := by unfold Hid; rw [← hW8]; exact (Below.refl _ w7).alloc (Nat.le_refl _) _
  rw [hW8]
  clear hW8
  go_loopw [27] (fun i wr => ∃ (k : Nat) (ua : Option Addr) (uc : Nat), k ≤ n_dec ∧ i = .int .i64 k ∧ wr.cell? ⟨w7.heap.size, 7, none⟩ = some (.slice ua k uc) ∧ Hid (TB wr w7.heap.size #[.slice a_cat n_cat c_cat, .slice a_com n_com c_com, .slice a_clu n_clu c_clu, .slice a_wor n_wor c_wor, .slice a_scr n_scr c_scr, .slice (some ⟨rb_dec, ro_dec, none⟩) n_dec rc_dec, .slice (some ⟨rb_fol, ro_fol, none⟩) n_fol rc_fol, .slice ua k uc, .slice none 0 0]) ∧ Hid (LsAt wr (w7.heap.size + 1) (.slice ua k uc) (decR.take k)) ∧ Hid (Below w7.heap.size w7 wr)) (fun i _ => n_dec - (RowKit.intOf i).toNat)
  case atStart => exact ⟨0, none, 0, Nat.zero_le _, rfl, HTB.out.cell 7, HTB, LsAt.nil _ _, HLO⟩
  case round =>
    obtain ⟨k, ua, uc, hk, rfl, hct, HTB, HLS, HLO⟩ := hrel
    by_cases hlt : k < n_dec
    · have hlt' : (k : Int) < (n_dec : Int) := by omega
      have hn1k : n_dec ≤ 1000 := by have h2 := HLD.out; have h3 := HN_dec.out; omega
      obtain ⟨x, hx⟩ : ∃ x, decL[k]? = some x := ⟨_, List.getElem?_eq_getElem (by have := HN_dec.out; omega)⟩
      obtain ⟨fg, fo, fc, hrm0⟩ := HRD.out k x hx
      have hrm := hrm0.below HLO.out
      obtain ⟨f, hf1, hf2, hf3, hf4⟩ := HDO.out k x hx
      have q0 := hrm.lo
      have q1 := hrm.hi
      have q2 := hrm.fv
      have q3 := hrm.fs 0 f hf1
      rw [Nat.add_zero] at q3
      have q3w := hrm0.fs 0 f hf1
      have hfgw : fg < w7.heap.size := World.block_lt_of_cell? w7 _ q3w
      have hbs := HLO.out.size
      have hTl : w7.heap.size < wr.heap.size := HTB.out.lt
      have HTK := dec_get hx
      obtain ⟨L, hL, ho, hfL⟩ := HLS.out
      have hLk : L.length = k := by have := congrArg List.length hL; rw [List.length_map, List.length_take] at this; have h2 := HLD.out; have h3 := HN_dec.out; omega
      have HPC : Hid (∀ W, Calls Tryz.prog 46 #[.string (BA f)] W fun e w' => ∃ v, e = .returned v ∧ IOwn w' W.heap.size v (pts ((spl [] f).map BA)) ∧ Below W.heap.size W w') := fun W => HPT.out f W hf2
      have HOW : Hid (wr.ownsRow (w7.heap.size + 1) 35 1 (.slice ua k uc) L.length (L.map (·.1))) := ho
      have HLL : Hid (L.length ≤ 1000) := by have h2 := HLD.out; have h3 := HN_dec.out; unfold Hid; omega
      have HBS : Hid (w7.heap.size + 1 ≤ wr.heap.size) := by have := HTB.out.lt; unfold Hid; omega
      obtain ⟨lo, hi', fs⟩ := x
      simp only at q0 q1 q2 hf3 hf4 HTK
      generalize hL3 : fs.length = n3 at *
      have hf5 : 0 < n3 := by omega
      have STEP : Hid (∀ (w5 W W' : World) (cv : Value) (g cap : Nat), IOwn w5 (wr.heap.size + 1) cv (pts ((spl [] f).map BA)) → Below (wr.heap.size + 1) (wr.alloc (.cells #[.int .i64 lo, .int .i64 hi', .slice (some ⟨fg, fo, none⟩) n3 fc] 82)) w5 → Below w5.heap.size w5 W → W'.ownsRow (w7.heap.size + 1) 35 1 (.slice (some ⟨g, 0, none⟩) (L.length + 1) cap) (L.length + 1) (L.map (·.1) ++ [cv]) → W.grownBy W' (Value.slice ua k uc).ownBlock →
          W'.cell? ⟨wr.heap.size, 2, none⟩ = some (.slice (some ⟨fg, fo, none⟩) n3 fc) ∧ W'.cell? ⟨fg, fo, none⟩ = some (.string (BA f)) ∧ W'.cell? ⟨w7.heap.size, 7, none⟩ = some (.slice ua k uc) ∧ W'.frozen? ⟨w7.heap.size, 7, none⟩ = false ∧ (0 : Nat) = 0 ∧ (0 : Nat) = 0 ∧
          Hid ((W'.setCell ⟨w7.heap.size, 7, none⟩ (.slice (some ⟨g, 0, none⟩) (L.length + 1) cap)).cell? ⟨w7.heap.size, 7, none⟩ = some (.slice (some ⟨g, 0, none⟩) (k + 1 : Nat) cap) ∧ Hid (TB (W'.setCell ⟨w7.heap.size, 7, none⟩ (.slice (some ⟨g, 0, none⟩) (L.length + 1) cap)) w7.heap.size #[.slice a_cat n_cat c_cat, .slice a_com n_com c_com, .slice a_clu n_clu c_clu, .slice a_wor n_wor c_wor, .slice a_scr n_scr c_scr, .slice (some ⟨rb_dec, ro_dec, none⟩) n_dec rc_dec, .slice (some ⟨rb_fol, ro_fol, none⟩) n_fol rc_fol, .slice (some ⟨g, 0, none⟩) (k + 1 : Nat) cap, .slice none 0 0]) ∧ Hid (LsAt (W'.setCell ⟨w7.heap.size, 7, none⟩ (.slice (some ⟨g, 0, none⟩) (L.length + 1) cap)) (w7.heap.size + 1) (.slice (some ⟨g, 0, none⟩) (k + 1 : Nat) cap) (decR.take (k + 1))) ∧ (W'.setCell ⟨w7.heap.size, 7, none⟩ (.slice (some ⟨g, 0, none⟩) (L.length + 1) cap)).cell? ⟨wr.heap.size, 2, none⟩ = some (.slice (some ⟨fg, fo, none⟩) n3 fc) ∧ (W'.setCell ⟨w7.heap.size, 7, none⟩ (.slice (some ⟨g, 0, none⟩) (L.length + 1) cap)).cell? ⟨fg, fo, none⟩ = some (.string (BA f)) ∧ Hid (Below w7.heap.size w7 (W'.setCell ⟨w7.heap.size, 7, none⟩ (.slice (some ⟨g, 0, none⟩) (L.length + 1) cap))))) := fun w5 W W' cv g cap h1 h2 h3 h4 h5 => by
        obtain ⟨s1, s2, s3, s4, s5, s6, s7, s8⟩ := load_step w7 wr w5 W W' w7.heap.size (w7.heap.size + 1) 7 k _ ua uc L (.cells #[.int .i64 lo, .int .i64 hi', .slice (some ⟨fg, fo, none⟩) n3 fc] 82) cv _ g cap rfl (Nat.le_refl _) (by have := HBS.out; omega) HLO.out HTB.out rfl ho hfL h2 h1 h3 h4 h5
        have ca : W'.cell? ⟨wr.heap.size, 2, none⟩ = some (.slice (some ⟨fg, fo, none⟩) n3 fc) := by
          rw [World.cell?_of_block (s1 wr.heap.size (.inr rfl))]
          exact cell_of_row _ _ 2 _ _ _ (World.alloc_heap_new _ _)
        have cb : W'.cell? ⟨fg, fo, none⟩ = some (.string (BA f)) := by
          rw [World.cell?_of_block (s1 fg (.inl hfgw))]
          exact (pastA wr _ ⟨fg, fo, none⟩ (by show fg < _; omega)).trans q3
        have ts := turns_set W' w7.heap.size 7 (.slice (some ⟨g, 0, none⟩) (L.length + 1) cap)
        have tc : ∀ (a : Addr) (v : Value), a.block ≠ w7.heap.size → W'.cell? a = some v → (W'.setCell ⟨w7.heap.size, 7, none⟩ (.slice (some ⟨g, 0, none⟩) (L.length + 1) cap)).cell? a = some v := fun a v hn hc => (World.cell?_of_block (ts.block a.block (World.block_lt_of_cell? W' a hc) hn)).trans hc
        refine ⟨ca, cb, s2, s3, rfl, rfl, ?_, ?_, ?_, tc _ _ (by show wr.heap.size ≠ w7.heap.size; omega) ca, tc _ _ (by show fg ≠ w7.heap.size; omega) cb, s6⟩
        · rw [s4.cell, ← hLk]; rfl
        · rw [← hLk]; exact s4
        · rw [Hid, HTK, hf3, ← hL, ← hLk]; exact s5
      have KEEP : Hid (∀ (X w5 : World) (cv : Value), IOwn w5 X.heap.size cv (pts ((spl [] f).map BA)) → Below X.heap.size X w5 → (X.heap = (wr.alloc (.cells #[.int .i64 lo, .int .i64 hi', .slice (some ⟨fg, fo, none⟩) n3 fc] 82)).heap ∧ X.os = wr.os ∧ X.tape = wr.tape ∧ X.output = wr.output) →
          Hid (IOwn w5 (wr.heap.size + 1) cv (pts ((spl [] f).map BA))) ∧ Hid (Below (wr.heap.size + 1) (wr.alloc (.cells #[.int .i64 lo, .int .i64 hi', .slice (some ⟨fg, fo, none⟩) n3 fc] 82)) w5) ∧ Hid (Below wr.heap.size wr w5) ∧ w5.cell? ⟨wr.heap.size, 2, none⟩ = some (.slice (some ⟨fg, fo, none⟩) n3 fc) ∧ w5.cell? ⟨fg, fo, none⟩ = some (.string (BA f)) ∧ w5.cell? ⟨w7.heap.size, 7, none⟩ = some (.slice ua k uc) ∧ wr.heap.size ≤ w5.heap.size ∧ wr.heap.size < w5.heap.size ∧ w7.heap.size < w5.heap.size ∧ fg < w5.heap.size) := fun X w5 cv h1 h2 h3 => by
        obtain ⟨e1, e2, e3, e4⟩ := h3
        have hsz : X.heap.size = wr.heap.size + 1 := by rw [e1]; exact World.size_alloc _ _
        have hb : Below (wr.heap.size + 1) (wr.alloc (.cells #[.int .i64 lo, .int .i64 hi', .slice (some ⟨fg, fo, none⟩) n3 fc] 82)) w5 := by
          rw [hsz] at h2
          exact ⟨h2.os.trans e2, h2.tape.trans e3, h2.output.trans e4, by have := h2.size; rw [hsz] at this; rw [World.size_alloc]; exact this, fun q hq => by rw [h2.block q hq, e1]⟩
        rw [hsz] at h1
        have ha : Below wr.heap.size wr (wr.alloc (.cells #[.int .i64 lo, .int .i64 hi', .slice (some ⟨fg, fo, none⟩) n3 fc] 82)) := (Below.refl _ wr).alloc (Nat.le_refl _) _
        have hw : Below wr.heap.size wr w5 := ha.trans (hb.mono (by omega))
        have hs5 := hb.size
        rw [World.size_alloc] at hs5
        refine ⟨h1, hb, hw, ?_, (hw.cell (p := ⟨fg, fo, none⟩) (by show fg < _; omega)).trans q3, (hw.cell (p := ⟨w7.heap.size, 7, none⟩) hTl).trans hct, by omega, by omega, by omega, by omega⟩
        exact (hb.cell (p := ⟨wr.heap.size, 2, none⟩) (by show wr.heap.size < _; omega)).trans (cell_of_row _ _ 2 _ _ _ (World.alloc_heap_new _ _))
      generalize pts ((spl [] f).map BA) = XS at *
      generalize BA f = B0 at *
      clear hrm hrm0 hf1 hf2 hf3 HTK ho hfL hL hLk hx HLS HTB q3w HLO
      go_wp2
      have cxa : (wr.alloc (.cells #[.int .i64 lo, .int .i64 hi', .slice (some ⟨fg, fo, none⟩) n3 fc] 82)).cell? ⟨wr.heap.size, 2, none⟩ = some (.slice (some ⟨fg, fo, none⟩) n3 fc) := cell_of_row _ _ 2 _ _ _ (World.alloc_heap_new _ _)
      have cxb : (wr.alloc (.cells #[.int .i64 lo, .int .i64 hi', .slice (some ⟨fg, fo, none⟩) n3 fc] 82)).cell? ⟨fg, fo, none⟩ = some (.string B0) := (pastA wr _ ⟨fg, fo, none⟩ (by show fg < _; omega)).trans q3
      have cxt : (wr.alloc (.cells #[.int .i64 lo, .int .i64 hi', .slice (some ⟨fg, fo, none⟩) n3 fc] 82)).cell? ⟨w7.heap.size, 7, none⟩ = some (.slice ua k uc) := (pastA wr _ ⟨w7.heap.size, 7, none⟩ (by show w7.heap.size < _; omega)).trans hct
      refine wp_region_noPanic ?_
      refine wp_region_held_drew (S := fun w' => w'.cell? ⟨wr.heap.size, 2, none⟩ = some (.slice (some ⟨fg, fo, none⟩) n3 fc) ∧ w'.cell? ⟨fg, fo, none⟩ = some (.string B0)) (by kernel_rfl) ?_ (fun hHeld => ?_)
      · exact ⟨cxa, cxb⟩
      refine wpAnyH_take (i := 0) (v := ?_) rfl (by kernel_rfl) (by kernel_rfl) (by kernel_rfl) (fun _ _ _ h => h) (Or.inl ⟨by rfl, ?_⟩) (by assumption) ?_
      rotate_left
      · (intro w' hSw; (try dsimp only at hSw); go_simp; try with_reducible rfl)
      try simp only [Act.put, List.setIfInBounds_toArray, List.set_cons_zero, List.set_cons_succ]
      refine wpAnyH_take (i := 1) (v := ?_) rfl (by kernel_rfl) (by kernel_rfl) (by kernel_rfl) (fun _ _ _ h => h) (Or.inl ⟨by rfl, ?_⟩) (by assumption) ?_
      rotate_left
      · (intro w' hSw; (try dsimp only at hSw); go_simp; try with_reducible rfl)
      try simp only [Act.put, List.setIfInBounds_toArray, List.set_cons_zero, List.set_cons_succ]
      refine wpAnyH_take (i := 2) (v := ?_) rfl (by kernel_rfl) (by kernel_rfl) (by kernel_rfl) (fun _ _ _ h => h) (Or.inl ⟨by rfl, ?_⟩) (by assumption) ?_
      rotate_left
      · (intro w' hSw; (try dsimp only at hSw); go_simp; try with_reducible rfl)
      try simp only [Act.put, List.setIfInBounds_toArray, List.set_cons_zero, List.set_cons_succ]
      refine wpAnyH_take (i := 3) (v := ?_) rfl (by kernel_rfl) (by kernel_rfl) (by kernel_rfl) (fun _ _ _ h => h) (Or.inl ⟨by rfl, ?_⟩) (by assumption) ?_
      rotate_left
      · (intro w' hSw; (try dsimp only at hSw); go_simp; try with_reducible rfl)
      try simp only [Act.put, List.setIfInBounds_toArray, List.set_cons_zero, List.set_cons_succ]
      refine wpAnyH_take (i := 5) (v := ?_) rfl (by kernel_rfl) (by kernel_rfl) (by kernel_rfl) (fun _ _ _ h => h) (Or.inl ⟨by rfl, ?_⟩) (by assumption) ?_
      rotate_left
      · (intro w' hSw; (try dsimp only at hSw); go_simp; try with_reducible rfl)
      try simp only [Act.put, List.setIfInBounds_toArray, List.set_cons_zero, List.set_cons_succ]
      refine wpAnyH_take (i := 6) (v := ?_) rfl (by kernel_rfl) (by kernel_rfl) (by kernel_rfl) (fun _ _ _ h => h) (Or.inl ⟨by rfl, ?_⟩) (by assumption) ?_
      rotate_left
      · (intro w' hSw; (try dsimp only at hSw); go_simp; try with_reducible rfl)
      try simp only [Act.put, List.setIfInBounds_toArray, List.set_cons_zero, List.set_cons_succ]
      refine wpAnyH_take (i := 7) (v := ?_) rfl (by kernel_rfl) (by kernel_rfl) (by kernel_rfl) (fun _ _ _ h => h) (Or.inl ⟨by rfl, ?_⟩) (by assumption) ?_
      rotate_left
      · (intro w' hSw; (try dsimp only at hSw); go_simp; try with_reducible rfl)
      try simp only [Act.put, List.setIfInBounds_toArray, List.set_cons_zero, List.set_cons_succ]
      refine wpAnyH_take (i := 8) (v := ?_) rfl (by kernel_rfl) (by kernel_rfl) (by kernel_rfl) (fun _ _ _ h => h) (Or.inl ⟨by rfl, ?_⟩) (by assumption) ?_
      rotate_left
      · (intro w' hSw; (try dsimp only at hSw); go_simp; try with_reducible rfl)
      try simp only [Act.put, List.setIfInBounds_toArray, List.set_cons_zero, List.set_cons_succ]
      refine wpAnyH_ready (rs := [4, 9]) (by kernel_rfl) (by simp) ?_
      refine AllReadyH.cons rfl (fun K hK => ?_) ?_
      · go_simp
        refine hK.out _ _ ?_ (fun hHeld2 => ?_)
        · exact ⟨cxa, cxb⟩
        clear hK K hHeld
        have hHeld := hHeld2
        clear hHeld2
        try simp only [Act.put, List.setIfInBounds_toArray, List.set_cons_zero, List.set_cons_succ]
        refine wpAnyH_ready (rs := [9]) (by kernel_rfl) (by simp) ?_
        refine AllReadyH.cons rfl (fun K hK => ?_) ?_
        · go_simp
          refine (HPC.out _).mono ?_
          rintro e w5 ⟨cv, rfl, ho5, hb5⟩
          obtain ⟨va5, vc5, rfl⟩ := own_slice ho5
          obtain ⟨HO5, HBR5, HB5, c5a, c5b, c5t, z5, z5n, z5t, z5f⟩ := KEEP.out _ w5 _ ho5 hb5 ⟨rfl, rfl, rfl, rfl⟩
          clear ho5 hb5
          refine hK.out _ _ ?_ (fun hHeld2 => ?_)
          · exact ⟨c5a, c5b⟩
          clear hK K hHeld
          have hHeld := hHeld2
          clear hHeld2
          try simp only [Act.put, List.setIfInBounds_toArray, List.set_cons_zero, List.set_cons_succ]
          refine wpAnyH_ready (rs := [10]) (by kernel_rfl) (by simp) ?_
          refine AllReadyH.cons rfl (fun K hK => ?_) ?_
          · go_simp
            have c6a := (pastA w5 (.cells #[.slice va5 XS.length vc5] 35) ⟨wr.heap.size, 2, none⟩ (by show wr.heap.size < _; omega)).trans c5a
            have c6b := (pastA w5 (.cells #[.slice va5 XS.length vc5] 35) ⟨fg, fo, none⟩ (by show fg < _; omega)).trans c5b
            have c6t := (pastA w5 (.cells #[.slice va5 XS.length vc5] 35) ⟨w7.heap.size, 7, none⟩ (by show w7.heap.size < _; omega)).trans c5t
            refine hK.out _ _ ?_ (fun hHeld2 => ?_)
            · exact ⟨c6a, c6b⟩
            clear hK K hHeld
            have hHeld := hHeld2
            clear hHeld2
            try simp only [Act.put, List.setIfInBounds_toArray, List.set_cons_zero, List.set_cons_succ]
            refine wpAnyH_ready (rs := [11]) (by kernel_rfl) (by simp) ?_
            refine AllReadyH.cons rfl (fun K hK => ?_) ?_
            · refine step_append_lies _ rfl _ _ 77 rfl (w7.heap.size + 1) 35 i0 (.slice none 0 0) 1 24 Tryz.underlying77 hi hz0 hy1 hz2 rfl (by decide) (.slice ua k uc) L.length (L.map (·.1)) (by simp [Act.eval, Act.put]) (own_below HOW.out (below_alike (HB5.out.alloc z5 (.cells #[.slice va5 XS.length vc5] 35)) rfl rfl rfl rfl)) ⟨w5.heap.size, 0, none⟩ 1 1 [.slice va5 XS.length vc5] (by simp [Act.eval, Act.put]) rfl ?c1 ?c2 (by decide) ?c3 ?c4 ?c5 _ rfl ?_
              case c1 => exact one_icell w5 _ _
              case c2 => intro u hu; simp at hu; subst hu; rfl
              case c3 => have := HLL.out; unfold maxLen; omega
              case c4 => have := HLL.out; omega
              case c5 => show (w7.heap.size + 1) ≤ (w5.alloc (.cells #[.slice va5 XS.length vc5] 35)).heap.size; rw [World.size_alloc]; have := HBS.out; omega
              intro g cap w6 hown6 hgrow6 hat6 hlt6
              obtain ⟨k1, k2, k3, k4, k5, k6, K7⟩ := STEP.out w5 _ w6 (.slice va5 XS.length vc5) g cap HO5.out HBR5.out (below_alike ((Below.refl _ w5).alloc (Nat.le_refl _) (.cells #[.slice va5 XS.length vc5] 35)) rfl rfl rfl rfl) hown6 hgrow6
              clear hown6 hgrow6 hat6
              refine hK.out _ _ ?_ (fun hHeld2 => ?_)
              · exact ⟨k1, k2⟩
              clear hK K hHeld
              have hHeld := hHeld2
              clear hHeld2
              try simp only [Act.put, List.setIfInBounds_toArray, List.set_cons_zero, List.set_cons_succ]
              refine wpAnyH_take (i := 12) (v := ?_) rfl (by kernel_rfl) (by kernel_rfl) (by kernel_rfl) (fun _ _ _ h => h) (Or.inl ⟨by rfl, ?_⟩) (by assumption) ?_
              rotate_left
              · (intro w' hSw; (try dsimp only at hSw); go_simp; try with_reducible rfl)
              try simp only [Act.put, List.setIfInBounds_toArray, List.set_cons_zero, List.set_cons_succ]
              refine wpAnyH_take (i := 13) (v := ?_) rfl (by kernel_rfl) (by kernel_rfl) (by kernel_rfl) (fun _ _ _ h => h) (Or.inl ⟨by rfl, ?_⟩) (by assumption) ?_
              rotate_left
              · (intro w' hSw; (try dsimp only at hSw); go_simp; try with_reducible rfl)
              try simp only [Act.put, List.setIfInBounds_toArray, List.set_cons_zero, List.set_cons_succ]
              refine wpAnyH_ready (rs := [14]) (by kernel_rfl) (by simp) ?_
              refine AllReadyH.cons rfl (fun K hK => ?_) ?_
              · go_simp
                refine hK.out _ _ ?_ (fun hHeld2 => ?_)
                · exact ⟨K7.out.2.2.2.1, K7.out.2.2.2.2.1⟩
                clear hK K hHeld hHeld2
                try simp only [Act.put, List.setIfInBounds_toArray, List.set_cons_zero, List.set_cons_succ]
                refine wpAnyH_done (by kernel_rfl) ?_ _
                refine NoPanic.normal ?_
                go_wp2
                exact ⟨⟨k + 1, some ⟨g, 0, none⟩, cap, by omega, by go_num, K7.out.1, K7.out.2.1, K7.out.2.2.1, K7.out.2.2.2.2.2⟩, by simp [RowKit.intOf]; omega⟩
              exact AllReadyH.nil
            exact AllReadyH.nil
          exact AllReadyH.nil
        exact AllReadyH.nil
      refine AllReadyH.cons rfl (fun K hK => ?_) ?_
      · go_simp
        refine (HPC.out _).mono ?_
        rintro e w5 ⟨cv, rfl, ho5, hb5⟩
        obtain ⟨va5, vc5, rfl⟩ := own_slice ho5
        obtain ⟨HO5, HBR5, HB5, c5a, c5b, c5t, z5, z5n, z5t, z5f⟩ := KEEP.out _ w5 _ ho5 hb5 ⟨rfl, rfl, rfl, rfl⟩
        clear ho5 hb5
        refine hK.out _ _ ?_ (fun hHeld2 => ?_)
        · exact ⟨c5a, c5b⟩
        clear hK K hHeld
        have hHeld := hHeld2
        clear hHeld2
        try simp only [Act.put, List.setIfInBounds_toArray, List.set_cons_zero, List.set_cons_succ]
        refine wpAnyH_ready (rs := [4, 10]) (by kernel_rfl) (by simp) ?_
        refine AllReadyH.cons rfl (fun K hK => ?_) ?_
        · go_simp
          refine hK.out _ _ ?_ (fun hHeld2 => ?_)
          · exact ⟨c5a, c5b⟩
          clear hK K hHeld
          have hHeld := hHeld2
          clear hHeld2
          try simp only [Act.put, List.setIfInBounds_toArray, List.set_cons_zero, List.set_cons_succ]
          refine wpAnyH_ready (rs := [10]) (by kernel_rfl) (by simp) ?_
          refine AllReadyH.cons rfl (fun K hK => ?_) ?_
          · go_simp
            have c6a := (pastA w5 (.cells #[.slice va5 XS.length vc5] 35) ⟨wr.heap.size, 2, none⟩ (by show wr.heap.size < _; omega)).trans c5a
            have c6b := (pastA w5 (.cells #[.slice va5 XS.length vc5] 35) ⟨fg, fo, none⟩ (by show fg < _; omega)).trans c5b
            have c6t := (pastA w5 (.cells #[.slice va5 XS.length vc5] 35) ⟨w7.heap.size, 7, none⟩ (by show w7.heap.size < _; omega)).trans c5t
            refine hK.out _ _ ?_ (fun hHeld2 => ?_)
            · exact ⟨c6a, c6b⟩
            clear hK K hHeld
            have hHeld := hHeld2
            clear hHeld2
            try simp only [Act.put, List.setIfInBounds_toArray, List.set_cons_zero, List.set_cons_succ]
            refine wpAnyH_ready (rs := [11]) (by kernel_rfl) (by simp) ?_
            refine AllReadyH.cons rfl (fun K hK => ?_) ?_
            · refine step_append_lies _ rfl _ _ 77 rfl (w7.heap.size + 1) 35 i0 (.slice none 0 0) 1 24 Tryz.underlying77 hi hz0 hy1 hz2 rfl (by decide) (.slice ua k uc) L.length (L.map (·.1)) (by simp [Act.eval, Act.put]) (own_below HOW.out (below_alike (HB5.out.alloc z5 (.cells #[.slice va5 XS.length vc5] 35)) rfl rfl rfl rfl)) ⟨w5.heap.size, 0, none⟩ 1 1 [.slice va5 XS.length vc5] (by simp [Act.eval, Act.put]) rfl ?c1 ?c2 (by decide) ?c3 ?c4 ?c5 _ rfl ?_
              case c1 => exact one_icell w5 _ _
              case c2 => intro u hu; simp at hu; subst hu; rfl
              case c3 => have := HLL.out; unfold maxLen; omega
              case c4 => have := HLL.out; omega
              case c5 => show (w7.heap.size + 1) ≤ (w5.alloc (.cells #[.slice va5 XS.length vc5] 35)).heap.size; rw [World.size_alloc]; have := HBS.out; omega
              intro g cap w6 hown6 hgrow6 hat6 hlt6
              obtain ⟨k1, k2, k3, k4, k5, k6, K7⟩ := STEP.out w5 _ w6 (.slice va5 XS.length vc5) g cap HO5.out HBR5.out (below_alike ((Below.refl _ w5).alloc (Nat.le_refl _) (.cells #[.slice va5 XS.length vc5] 35)) rfl rfl rfl rfl) hown6 hgrow6
              clear hown6 hgrow6 hat6
              refine hK.out _ _ ?_ (fun hHeld2 => ?_)
              · exact ⟨k1, k2⟩
              clear hK K hHeld
              have hHeld := hHeld2
              clear hHeld2
              try simp only [Act.put, List.setIfInBounds_toArray, List.set_cons_zero, List.set_cons_succ]
              refine wpAnyH_take (i := 12) (v := ?_) rfl (by kernel_rfl) (by kernel_rfl) (by kernel_rfl) (fun _ _ _ h => h) (Or.inl ⟨by rfl, ?_⟩) (by assumption) ?_
              rotate_left
              · (intro w' hSw; (try dsimp only at hSw); go_simp; try with_reducible rfl)
              try simp only [Act.put, List.setIfInBounds_toArray, List.set_cons_zero, List.set_cons_succ]
              refine wpAnyH_take (i := 13) (v := ?_) rfl (by kernel_rfl) (by kernel_rfl) (by kernel_rfl) (fun _ _ _ h => h) (Or.inl ⟨by rfl, ?_⟩) (by assumption) ?_
              rotate_left
              · (intro w' hSw; (try dsimp only at hSw); go_simp; try with_reducible rfl)
              try simp only [Act.put, List.setIfInBounds_toArray, List.set_cons_zero, List.set_cons_succ]
              refine wpAnyH_ready (rs := [14]) (by kernel_rfl) (by simp) ?_
              refine AllReadyH.cons rfl (fun K hK => ?_) ?_
              · go_simp
                refine hK.out _ _ ?_ (fun hHeld2 => ?_)
                · exact ⟨K7.out.2.2.2.1, K7.out.2.2.2.2.1⟩
                clear hK K hHeld hHeld2
                try simp only [Act.put, List.setIfInBounds_toArray, List.set_cons_zero, List.set_cons_succ]
                refine wpAnyH_done (by kernel_rfl) ?_ _
                refine NoPanic.normal ?_
                go_wp2
                exact ⟨⟨k + 1, some ⟨g, 0, none⟩, cap, by omega, by go_num, K7.out.1, K7.out.2.1, K7.out.2.2.1, K7.out.2.2.2.2.2⟩, by simp [RowKit.intOf]; omega⟩
              exact AllReadyH.nil
            exact AllReadyH.nil
          exact AllReadyH.nil
        refine AllReadyH.cons rfl (fun K hK => ?_) ?_
        · go_simp
          have c6a := (pastA w5 (.cells #[.slice va5 XS.length vc5] 35) ⟨wr.heap.size, 2, none⟩ (by show wr.heap.size < _; omega)).trans c5a
          have c6b := (pastA w5 (.cells #[.slice va5 XS.length vc5] 35) ⟨fg, fo, none⟩ (by show fg < _; omega)).trans c5b
          have c6t := (pastA w5 (.cells #[.slice va5 XS.length vc5] 35) ⟨w7.heap.size, 7, none⟩ (by show w7.heap.size < _; omega)).trans c5t
          refine hK.out _ _ ?_ (fun hHeld2 => ?_)
          · exact ⟨c6a, c6b⟩
          clear hK K hHeld
          have hHeld := hHeld2
          clear hHeld2
          try simp only [Act.put, List.setIfInBounds_toArray, List.set_cons_zero, List.set_cons_succ]
          refine wpAnyH_ready (rs := [4]) (by kernel_rfl) (by simp) ?_
          refine AllReadyH.cons rfl (fun K hK => ?_) ?_
          · go_simp
            refine hK.out _ _ ?_ (fun hHeld2 => ?_)
            · exact ⟨c6a, c6b⟩
            clear hK K hHeld
            have hHeld := hHeld2
            clear hHeld2
            try simp only [Act.put, List.setIfInBounds_toArray, List.set_cons_zero, List.set_cons_succ]
            refine wpAnyH_ready (rs := [11]) (by kernel_rfl) (by simp) ?_
            refine AllReadyH.cons rfl (fun K hK => ?_) ?_
            · refine step_append_lies _ rfl _ _ 77 rfl (w7.heap.size + 1) 35 i0 (.slice none 0 0) 1 24 Tryz.underlying77 hi hz0 hy1 hz2 rfl (by decide) (.slice ua k uc) L.length (L.map (·.1)) (by simp [Act.eval, Act.put]) (own_below HOW.out (below_alike (HB5.out.alloc z5 (.cells #[.slice va5 XS.length vc5] 35)) rfl rfl rfl rfl)) ⟨w5.heap.size, 0, none⟩ 1 1 [.slice va5 XS.length vc5] (by simp [Act.eval, Act.put]) rfl ?c1 ?c2 (by decide) ?c3 ?c4 ?c5 _ rfl ?_
              case c1 => exact one_icell w5 _ _
              case c2 => intro u hu; simp at hu; subst hu; rfl
              case c3 => have := HLL.out; unfold maxLen; omega
              case c4 => have := HLL.out; omega
              case c5 => show (w7.heap.size + 1) ≤ (w5.alloc (.cells #[.slice va5 XS.length vc5] 35)).heap.size; rw [World.size_alloc]; have := HBS.out; omega
              intro g cap w6 hown6 hgrow6 hat6 hlt6
              obtain ⟨k1, k2, k3, k4, k5, k6, K7⟩ := STEP.out w5 _ w6 (.slice va5 XS.length vc5) g cap HO5.out HBR5.out (below_alike ((Below.refl _ w5).alloc (Nat.le_refl _) (.cells #[.slice va5 XS.length vc5] 35)) rfl rfl rfl rfl) hown6 hgrow6
              clear hown6 hgrow6 hat6
              refine hK.out _ _ ?_ (fun hHeld2 => ?_)
              · exact ⟨k1, k2⟩
              clear hK K hHeld
              have hHeld := hHeld2
              clear hHeld2
              try simp only [Act.put, List.setIfInBounds_toArray, List.set_cons_zero, List.set_cons_succ]
              refine wpAnyH_take (i := 12) (v := ?_) rfl (by kernel_rfl) (by kernel_rfl) (by kernel_rfl) (fun _ _ _ h => h) (Or.inl ⟨by rfl, ?_⟩) (by assumption) ?_
              rotate_left
              · (intro w' hSw; (try dsimp only at hSw); go_simp; try with_reducible rfl)
              try simp only [Act.put, List.setIfInBounds_toArray, List.set_cons_zero, List.set_cons_succ]
              refine wpAnyH_take (i := 13) (v := ?_) rfl (by kernel_rfl) (by kernel_rfl) (by kernel_rfl) (fun _ _ _ h => h) (Or.inl ⟨by rfl, ?_⟩) (by assumption) ?_
              rotate_left
              · (intro w' hSw; (try dsimp only at hSw); go_simp; try with_reducible rfl)
              try simp only [Act.put, List.setIfInBounds_toArray, List.set_cons_zero, List.set_cons_succ]
              refine wpAnyH_ready (rs := [14]) (by kernel_rfl) (by simp) ?_
              refine AllReadyH.cons rfl (fun K hK => ?_) ?_
              · go_simp
                refine hK.out _ _ ?_ (fun hHeld2 => ?_)
                · exact ⟨K7.out.2.2.2.1, K7.out.2.2.2.2.1⟩
                clear hK K hHeld hHeld2
                try simp only [Act.put, List.setIfInBounds_toArray, List.set_cons_zero, List.set_cons_succ]
                refine wpAnyH_done (by kernel_rfl) ?_ _
                refine NoPanic.normal ?_
                go_wp2
                exact ⟨⟨k + 1, some ⟨g, 0, none⟩, cap, by omega, by go_num, K7.out.1, K7.out.2.1, K7.out.2.2.1, K7.out.2.2.2.2.2⟩, by simp [RowKit.intOf]; omega⟩
              exact AllReadyH.nil
            exact AllReadyH.nil
          exact AllReadyH.nil
        exact AllReadyH.nil
      exact AllReadyH.nil
    · have hge : ¬ (k : Int) < (n_dec : Int) := by omega
      obtain rfl : n_dec = k := by omega
      have HTB1 : Hid (TB wr w7.heap.size #[.slice a_cat n_cat c_cat, .slice a_com n_com c_com, .slice a_clu n_clu c_clu, .slice a_wor n_wor c_wor, .slice a_scr n_scr c_scr, .slice (some ⟨rb_dec, ro_dec, none⟩) n_dec rc_dec, .slice (some ⟨rb_fol, ro_fol, none⟩) n_fol rc_fol, .slice ua n_dec uc, .slice none 0 0]) := HTB
      have HLS1 : Hid (LsAt wr (w7.heap.size + 1) (.slice ua n_dec uc) decR) := by
        have h := HLS.out
        rw [List.take_of_length_le (by have h2 := HLD.out; have h3 := HN_dec.out; omega)] at h
        exact h
      have HLO1 := HLO
      have HP1 : Hid (∀ b, (Value.slice ua n_dec uc).ownBlock = some b → b < wr.heap.size) := fun b e => by
        obtain ⟨M, _, ho, _⟩ := HLS1.out
        exact (ho.lt b e).2
      have HT2 : Hid (w7.heap.size + 1 ≤ wr.heap.size) := by have := HTB.out.lt; unfold Hid; omega
      have hc6 : wr.cell? ⟨w7.heap.size, 6, none⟩ = some (.slice (some ⟨rb_fol, ro_fol, none⟩) n_fol rc_fol) := by rw [HTB.out.cell]; rfl
      generalize hP1 : Value.slice ua n_dec uc = P1 at *
      clear hP1 HTB HLS HLO hct
      go_wp2
      generalize hB2 : wr.heap.size = B2 at *
      have HBQ : Hid (B2 ≤ wr.heap.size) := by unfold Hid; omega
      have HW2 : Hid (w7.heap.size ≤ B2) := by have := HT2.out; unfold Hid; omega
      clear hB2
      go_loopw [51] (fun i wr => ∃ (k : Nat) (ua : Option Addr) (uc : Nat), k ≤ n_fol ∧ i = .int .i64 k ∧ wr.cell? ⟨w7.heap.size, 8, none⟩ = some (.slice ua k uc) ∧ Hid (TB wr w7.heap.size #[.slice a_cat n_cat c_cat, .slice a_com n_com c_com, .slice a_clu n_clu c_clu, .slice a_wor n_wor c_wor, .slice a_scr n_scr c_scr, .slice (some ⟨rb_dec, ro_dec, none⟩) n_dec rc_dec, .slice (some ⟨rb_fol, ro_fol, none⟩) n_fol rc_fol, P1, .slice ua k uc]) ∧ Hid (LsAt wr (B2) (.slice ua k uc) (folR.take k)) ∧ Hid (Below w7.heap.size w7 wr) ∧ Hid (LsAt wr (w7.heap.size + 1) P1 decR) ∧ Hid (B2 ≤ wr.heap.size)) (fun i _ => n_fol - (RowKit.intOf i).toNat)
      case atStart => exact ⟨0, none, 0, Nat.zero_le _, rfl, HTB1.out.cell 8, HTB1, LsAt.nil _ _, HLO1, HLS1, HBQ⟩
      case round =>
        obtain ⟨k, ua, uc, hk, rfl, hct, HTB, HLS, HLO, HX2, HBQ2⟩ := hrel
        by_cases hlt : k < n_fol
        · have hlt' : (k : Int) < (n_fol : Int) := by omega
          have hn1k : n_fol ≤ 1000 := by have h2 := HLF.out; have h3 := HN_fol.out; omega
          obtain ⟨x, hx⟩ : ∃ x, folL[k]? = some x := ⟨_, List.getElem?_eq_getElem (by have := HN_fol.out; omega)⟩
          obtain ⟨fg, fo, fc, hrm0⟩ := HREC_fol.out k x hx
          have hrm := hrm0.below HLO.out
          obtain ⟨f, hf1, hf2, hf3, hf4⟩ := HFO.out k x hx
          have q0 := hrm.lo
          have q1 := hrm.hi
          have q2 := hrm.fv
          have q3 := hrm.fs 1 f hf1
          have q3w := hrm0.fs 1 f hf1
          have hfgw : fg < w7.heap.size := World.block_lt_of_cell? w7 _ q3w
          have hbs := HLO.out.size
          have hTl : w7.heap.size < wr.heap.size := HTB.out.lt
          have HTK := fol_get hx
          obtain ⟨L, hL, ho, hfL⟩ := HLS.out
          have hLk : L.length = k := by have := congrArg List.length hL; rw [List.length_map, List.length_take] at this; have h2 := HLF.out; have h3 := HN_fol.out; omega
          have HPC : Hid (∀ W, Calls Tryz.prog 46 #[.string (BA f)] W fun e w' => ∃ v, e = .returned v ∧ IOwn w' W.heap.size v (pts ((spl [] f).map BA)) ∧ Below W.heap.size W w') := fun W => HPT.out f W hf2
          have HOW : Hid (wr.ownsRow (B2) 35 1 (.slice ua k uc) L.length (L.map (·.1))) := ho
          have HLL : Hid (L.length ≤ 1000) := by have h2 := HLF.out; have h3 := HN_fol.out; unfold Hid; omega
          have HBS : Hid (B2 ≤ wr.heap.size) := HBQ2
          obtain ⟨lo, hi', fs⟩ := x
          simp only at q0 q1 q2 hf3 hf4 HTK
          generalize hL3 : fs.length = n3 at *
          have hf5 : 1 < n3 := by omega
          have STEP : Hid (∀ (w5 W W' : World) (cv : Value) (g cap : Nat), IOwn w5 (wr.heap.size + 1) cv (pts ((spl [] f).map BA)) → Below (wr.heap.size + 1) (wr.alloc (.cells #[.int .i64 lo, .int .i64 hi', .slice (some ⟨fg, fo, none⟩) n3 fc] 82)) w5 → Below w5.heap.size w5 W → W'.ownsRow (B2) 35 1 (.slice (some ⟨g, 0, none⟩) (L.length + 1) cap) (L.length + 1) (L.map (·.1) ++ [cv]) → W.grownBy W' (Value.slice ua k uc).ownBlock →
              W'.cell? ⟨wr.heap.size, 2, none⟩ = some (.slice (some ⟨fg, fo, none⟩) n3 fc) ∧ W'.cell? ⟨fg, fo + 1, none⟩ = some (.string (BA f)) ∧ W'.cell? ⟨w7.heap.size, 8, none⟩ = some (.slice ua k uc) ∧ W'.frozen? ⟨w7.heap.size, 8, none⟩ = false ∧ (0 : Nat) = 0 ∧ (0 : Nat) = 0 ∧
              Hid ((W'.setCell ⟨w7.heap.size, 8, none⟩ (.slice (some ⟨g, 0, none⟩) (L.length + 1) cap)).cell? ⟨w7.heap.size, 8, none⟩ = some (.slice (some ⟨g, 0, none⟩) (k + 1 : Nat) cap) ∧ Hid (TB (W'.setCell ⟨w7.heap.size, 8, none⟩ (.slice (some ⟨g, 0, none⟩) (L.length + 1) cap)) w7.heap.size #[.slice a_cat n_cat c_cat, .slice a_com n_com c_com, .slice a_clu n_clu c_clu, .slice a_wor n_wor c_wor, .slice a_scr n_scr c_scr, .slice (some ⟨rb_dec, ro_dec, none⟩) n_dec rc_dec, .slice (some ⟨rb_fol, ro_fol, none⟩) n_fol rc_fol, P1, .slice (some ⟨g, 0, none⟩) (k + 1 : Nat) cap]) ∧ Hid (LsAt (W'.setCell ⟨w7.heap.size, 8, none⟩ (.slice (some ⟨g, 0, none⟩) (L.length + 1) cap)) (B2) (.slice (some ⟨g, 0, none⟩) (k + 1 : Nat) cap) (folR.take (k + 1))) ∧ (W'.setCell ⟨w7.heap.size, 8, none⟩ (.slice (some ⟨g, 0, none⟩) (L.length + 1) cap)).cell? ⟨wr.heap.size, 2, none⟩ = some (.slice (some ⟨fg, fo, none⟩) n3 fc) ∧ (W'.setCell ⟨w7.heap.size, 8, none⟩ (.slice (some ⟨g, 0, none⟩) (L.length + 1) cap)).cell? ⟨fg, fo + 1, none⟩ = some (.string (BA f)) ∧ Hid (Below w7.heap.size w7 (W'.setCell ⟨w7.heap.size, 8, none⟩ (.slice (some ⟨g, 0, none⟩) (L.length + 1) cap))) ∧ Hid (LsAt (W'.setCell ⟨w7.heap.size, 8, none⟩ (.slice (some ⟨g, 0, none⟩) (L.length + 1) cap)) (w7.heap.size + 1) P1 decR) ∧ Hid (B2 ≤ (W'.setCell ⟨w7.heap.size, 8, none⟩ (.slice (some ⟨g, 0, none⟩) (L.length + 1) cap)).heap.size))) := fun w5 W W' cv g cap h1 h2 h3 h4 h5 => by
            obtain ⟨s1, s2, s3, s4, s5, s6, s7, s8⟩ := load_step w7 wr w5 W W' w7.heap.size (B2) 8 k _ ua uc L (.cells #[.int .i64 lo, .int .i64 hi', .slice (some ⟨fg, fo, none⟩) n3 fc] 82) cv _ g cap rfl (by have := HT2.out; omega) (by have := HBS.out; omega) HLO.out HTB.out rfl ho hfL h2 h1 h3 h4 h5
            have ca : W'.cell? ⟨wr.heap.size, 2, none⟩ = some (.slice (some ⟨fg, fo, none⟩) n3 fc) := by
              rw [World.cell?_of_block (s1 wr.heap.size (.inr rfl))]
              exact cell_of_row _ _ 2 _ _ _ (World.alloc_heap_new _ _)
            have cb : W'.cell? ⟨fg, fo + 1, none⟩ = some (.string (BA f)) := by
              rw [World.cell?_of_block (s1 fg (.inl hfgw))]
              exact (pastA wr _ ⟨fg, fo + 1, none⟩ (by show fg < _; omega)).trans q3
            have ts := turns_set W' w7.heap.size 8 (.slice (some ⟨g, 0, none⟩) (L.length + 1) cap)
            have tc : ∀ (a : Addr) (v : Value), a.block ≠ w7.heap.size → W'.cell? a = some v → (W'.setCell ⟨w7.heap.size, 8, none⟩ (.slice (some ⟨g, 0, none⟩) (L.length + 1) cap)).cell? a = some v := fun a v hn hc => (World.cell?_of_block (ts.block a.block (World.block_lt_of_cell? W' a hc) hn)).trans hc
            refine ⟨ca, cb, s2, s3, rfl, rfl, ?_, ?_, ?_, tc _ _ (by show wr.heap.size ≠ w7.heap.size; omega) ca, tc _ _ (by show fg ≠ w7.heap.size; omega) cb, s6, s7 _ _ HX2.out (fun b e => HP1.out b e), Nat.le_trans HBQ2.out s8⟩
            · rw [s4.cell, ← hLk]; rfl
            · rw [← hLk]; exact s4
            · rw [Hid, HTK, hf3, ← hL, ← hLk]; exact s5
          have KEEP : Hid (∀ (X w5 : World) (cv : Value), IOwn w5 X.heap.size cv (pts ((spl [] f).map BA)) → Below X.heap.size X w5 → (X.heap = (wr.alloc (.cells #[.int .i64 lo, .int .i64 hi', .slice (some ⟨fg, fo, none⟩) n3 fc] 82)).heap ∧ X.os = wr.os ∧ X.tape = wr.tape ∧ X.output = wr.output) →
              Hid (IOwn w5 (wr.heap.size + 1) cv (pts ((spl [] f).map BA))) ∧ Hid (Below (wr.heap.size + 1) (wr.alloc (.cells #[.int .i64 lo, .int .i64 hi', .slice (some ⟨fg, fo, none⟩) n3 fc] 82)) w5) ∧ Hid (Below wr.heap.size wr w5) ∧ w5.cell? ⟨wr.heap.size, 2, none⟩ = some (.slice (some ⟨fg, fo, none⟩) n3 fc) ∧ w5.cell? ⟨fg, fo + 1, none⟩ = some (.string (BA f)) ∧ w5.cell? ⟨w7.heap.size, 8, none⟩ = some (.slice ua k uc) ∧ wr.heap.size ≤ w5.heap.size ∧ wr.heap.size < w5.heap.size ∧ w7.heap.size < w5.heap.size ∧ fg < w5.heap.size) := fun X w5 cv h1 h2 h3 => by
            obtain ⟨e1, e2, e3, e4⟩ := h3
            have hsz : X.heap.size = wr.heap.size + 1 := by rw [e1]; exact World.size_alloc _ _
            have hb : Below (wr.heap.size + 1) (wr.alloc (.cells #[.int .i64 lo, .int .i64 hi', .slice (some ⟨fg, fo, none⟩) n3 fc] 82)) w5 := by
              rw [hsz] at h2
              exact ⟨h2.os.trans e2, h2.tape.trans e3, h2.output.trans e4, by have := h2.size; rw [hsz] at this; rw [World.size_alloc]; exact this, fun q hq => by rw [h2.block q hq, e1]⟩
            rw [hsz] at h1
            have ha : Below wr.heap.size wr (wr.alloc (.cells #[.int .i64 lo, .int .i64 hi', .slice (some ⟨fg, fo, none⟩) n3 fc] 82)) := (Below.refl _ wr).alloc (Nat.le_refl _) _
            have hw : Below wr.heap.size wr w5 := ha.trans (hb.mono (by omega))
            have hs5 := hb.size
            rw [World.size_alloc] at hs5
            refine ⟨h1, hb, hw, ?_, (hw.cell (p := ⟨fg, fo + 1, none⟩) (by show fg < _; omega)).trans q3, (hw.cell (p := ⟨w7.heap.size, 8, none⟩) hTl).trans hct, by omega, by omega, by omega, by omega⟩
            exact (hb.cell (p := ⟨wr.heap.size, 2, none⟩) (by show wr.heap.size < _; omega)).trans (cell_of_row _ _ 2 _ _ _ (World.alloc_heap_new _ _))
          generalize pts ((spl [] f).map BA) = XS at *
          generalize BA f = B0 at *
          clear hrm hrm0 hf1 hf2 hf3 HTK ho hfL hL hLk hx HLS HTB q3w HLO HX2 HBQ2
          go_wp2
          have cxa : (wr.alloc (.cells #[.int .i64 lo, .int .i64 hi', .slice (some ⟨fg, fo, none⟩) n3 fc] 82)).cell? ⟨wr.heap.size, 2, none⟩ = some (.slice (some ⟨fg, fo, none⟩) n3 fc) := cell_of_row _ _ 2 _ _ _ (World.alloc_heap_new _ _)
          have cxb : (wr.alloc (.cells #[.int .i64 lo, .int .i64 hi', .slice (some ⟨fg, fo, none⟩) n3 fc] 82)).cell? ⟨fg, fo + 1, none⟩ = some (.string B0) := (pastA wr _ ⟨fg, fo + 1, none⟩ (by show fg < _; omega)).trans q3
          have cxt : (wr.alloc (.cells #[.int .i64 lo, .int .i64 hi', .slice (some ⟨fg, fo, none⟩) n3 fc] 82)).cell? ⟨w7.heap.size, 8, none⟩ = some (.slice ua k uc) := (pastA wr _ ⟨w7.heap.size, 8, none⟩ (by show w7.heap.size < _; omega)).trans hct
          refine wp_region_noPanic ?_
          refine wp_region_held_drew (S := fun w' => w'.cell? ⟨wr.heap.size, 2, none⟩ = some (.slice (some ⟨fg, fo, none⟩) n3 fc) ∧ w'.cell? ⟨fg, fo + 1, none⟩ = some (.string B0)) (by kernel_rfl) ?_ (fun hHeld => ?_)
          · exact ⟨cxa, cxb⟩
          refine wpAnyH_take (i := 0) (v := ?_) rfl (by kernel_rfl) (by kernel_rfl) (by kernel_rfl) (fun _ _ _ h => h) (Or.inl ⟨by rfl, ?_⟩) (by assumption) ?_
          rotate_left
          · (intro w' hSw; (try dsimp only at hSw); go_simp; try with_reducible rfl)
          try simp only [Act.put, List.setIfInBounds_toArray, List.set_cons_zero, List.set_cons_succ]
          refine wpAnyH_take (i := 1) (v := ?_) rfl (by kernel_rfl) (by kernel_rfl) (by kernel_rfl) (fun _ _ _ h => h) (Or.inl ⟨by rfl, ?_⟩) (by assumption) ?_
          rotate_left
          · (intro w' hSw; (try dsimp only at hSw); go_simp; try with_reducible rfl)
          try simp only [Act.put, List.setIfInBounds_toArray, List.set_cons_zero, List.set_cons_succ]
          refine wpAnyH_take (i := 2) (v := ?_) rfl (by kernel_rfl) (by kernel_rfl) (by kernel_rfl) (fun _ _ _ h => h) (Or.inl ⟨by rfl, ?_⟩) (by assumption) ?_
          rotate_left
          · (intro w' hSw; (try dsimp only at hSw); go_simp; try with_reducible rfl)
          try simp only [Act.put, List.setIfInBounds_toArray, List.set_cons_zero, List.set_cons_succ]
          refine wpAnyH_take (i := 3) (v := ?_) rfl (by kernel_rfl) (by kernel_rfl) (by kernel_rfl) (fun _ _ _ h => h) (Or.inl ⟨by rfl, ?_⟩) (by assumption) ?_
          rotate_left
          · (intro w' hSw; (try dsimp only at hSw); go_simp; try with_reducible rfl)
          try simp only [Act.put, List.setIfInBounds_toArray, List.set_cons_zero, List.set_cons_succ]
          refine wpAnyH_take (i := 5) (v := ?_) rfl (by kernel_rfl) (by kernel_rfl) (by kernel_rfl) (fun _ _ _ h => h) (Or.inl ⟨by rfl, ?_⟩) (by assumption) ?_
          rotate_left
          · (intro w' hSw; (try dsimp only at hSw); go_simp; try with_reducible rfl)
          try simp only [Act.put, List.setIfInBounds_toArray, List.set_cons_zero, List.set_cons_succ]
          refine wpAnyH_take (i := 6) (v := ?_) rfl (by kernel_rfl) (by kernel_rfl) (by kernel_rfl) (fun _ _ _ h => h) (Or.inl ⟨by rfl, ?_⟩) (by assumption) ?_
          rotate_left
          · (intro w' hSw; (try dsimp only at hSw); go_simp; try with_reducible rfl)
          try simp only [Act.put, List.setIfInBounds_toArray, List.set_cons_zero, List.set_cons_succ]
          refine wpAnyH_take (i := 7) (v := ?_) rfl (by kernel_rfl) (by kernel_rfl) (by kernel_rfl) (fun _ _ _ h => h) (Or.inl ⟨by rfl, ?_⟩) (by assumption) ?_
          rotate_left
          · (intro w' hSw; (try dsimp only at hSw); go_simp; try with_reducible rfl)
          try simp only [Act.put, List.setIfInBounds_toArray, List.set_cons_zero, List.set_cons_succ]
          refine wpAnyH_take (i := 8) (v := ?_) rfl (by kernel_rfl) (by kernel_rfl) (by kernel_rfl) (fun _ _ _ h => h) (Or.inl ⟨by rfl, ?_⟩) (by assumption) ?_
          rotate_left
          · (intro w' hSw; (try dsimp only at hSw); go_simp; try with_reducible rfl)
          try simp only [Act.put, List.setIfInBounds_toArray, List.set_cons_zero, List.set_cons_succ]
          refine wpAnyH_ready (rs := [4, 9]) (by kernel_rfl) (by simp) ?_
          refine AllReadyH.cons rfl (fun K hK => ?_) ?_
          · go_simp
            refine hK.out _ _ ?_ (fun hHeld2 => ?_)
            · exact ⟨cxa, cxb⟩
            clear hK K hHeld
            have hHeld := hHeld2
            clear hHeld2
            try simp only [Act.put, List.setIfInBounds_toArray, List.set_cons_zero, List.set_cons_succ]
            refine wpAnyH_ready (rs := [9]) (by kernel_rfl) (by simp) ?_
            refine AllReadyH.cons rfl (fun K hK => ?_) ?_
            · go_simp
              refine (HPC.out _).mono ?_
              rintro e w5 ⟨cv, rfl, ho5, hb5⟩
              obtain ⟨va5, vc5, rfl⟩ := own_slice ho5
              obtain ⟨HO5, HBR5, HB5, c5a, c5b, c5t, z5, z5n, z5t, z5f⟩ := KEEP.out _ w5 _ ho5 hb5 ⟨rfl, rfl, rfl, rfl⟩
              clear ho5 hb5
              refine hK.out _ _ ?_ (fun hHeld2 => ?_)
              · exact ⟨c5a, c5b⟩
              clear hK K hHeld
              have hHeld := hHeld2
              clear hHeld2
              try simp only [Act.put, List.setIfInBounds_toArray, List.set_cons_zero, List.set_cons_succ]
              refine wpAnyH_ready (rs := [10]) (by kernel_rfl) (by simp) ?_
              refine AllReadyH.cons rfl (fun K hK => ?_) ?_
              · go_simp
                have c6a := (pastA w5 (.cells #[.slice va5 XS.length vc5] 35) ⟨wr.heap.size, 2, none⟩ (by show wr.heap.size < _; omega)).trans c5a
                have c6b := (pastA w5 (.cells #[.slice va5 XS.length vc5] 35) ⟨fg, fo + 1, none⟩ (by show fg < _; omega)).trans c5b
                have c6t := (pastA w5 (.cells #[.slice va5 XS.length vc5] 35) ⟨w7.heap.size, 8, none⟩ (by show w7.heap.size < _; omega)).trans c5t
                refine hK.out _ _ ?_ (fun hHeld2 => ?_)
                · exact ⟨c6a, c6b⟩
                clear hK K hHeld
                have hHeld := hHeld2
                clear hHeld2
                try simp only [Act.put, List.setIfInBounds_toArray, List.set_cons_zero, List.set_cons_succ]
                refine wpAnyH_ready (rs := [11]) (by kernel_rfl) (by simp) ?_
                refine AllReadyH.cons rfl (fun K hK => ?_) ?_
                · refine step_append_lies _ rfl _ _ 77 rfl (B2) 35 i0 (.slice none 0 0) 1 24 Tryz.underlying77 hi hz0 hy1 hz2 rfl (by decide) (.slice ua k uc) L.length (L.map (·.1)) (by simp [Act.eval, Act.put]) (own_below HOW.out (below_alike (HB5.out.alloc z5 (.cells #[.slice va5 XS.length vc5] 35)) rfl rfl rfl rfl)) ⟨w5.heap.size, 0, none⟩ 1 1 [.slice va5 XS.length vc5] (by simp [Act.eval, Act.put]) rfl ?c1 ?c2 (by decide) ?c3 ?c4 ?c5 _ rfl ?_
                  case c1 => exact one_icell w5 _ _
                  case c2 => intro u hu; simp at hu; subst hu; rfl
                  case c3 => have := HLL.out; unfold maxLen; omega
                  case c4 => have := HLL.out; omega
                  case c5 => show (B2) ≤ (w5.alloc (.cells #[.slice va5 XS.length vc5] 35)).heap.size; rw [World.size_alloc]; have := HBS.out; omega
                  intro g cap w6 hown6 hgrow6 hat6 hlt6
                  obtain ⟨k1, k2, k3, k4, k5, k6, K7⟩ := STEP.out w5 _ w6 (.slice va5 XS.length vc5) g cap HO5.out HBR5.out (below_alike ((Below.refl _ w5).alloc (Nat.le_refl _) (.cells #[.slice va5 XS.length vc5] 35)) rfl rfl rfl rfl) hown6 hgrow6
                  clear hown6 hgrow6 hat6
                  refine hK.out _ _ ?_ (fun hHeld2 => ?_)
                  · exact ⟨k1, k2⟩
                  clear hK K hHeld
                  have hHeld := hHeld2
                  clear hHeld2
                  try simp only [Act.put, List.setIfInBounds_toArray, List.set_cons_zero, List.set_cons_succ]
                  refine wpAnyH_take (i := 12) (v := ?_) rfl (by kernel_rfl) (by kernel_rfl) (by kernel_rfl) (fun _ _ _ h => h) (Or.inl ⟨by rfl, ?_⟩) (by assumption) ?_
                  rotate_left
                  · (intro w' hSw; (try dsimp only at hSw); go_simp; try with_reducible rfl)
                  try simp only [Act.put, List.setIfInBounds_toArray, List.set_cons_zero, List.set_cons_succ]
                  refine wpAnyH_take (i := 13) (v := ?_) rfl (by kernel_rfl) (by kernel_rfl) (by kernel_rfl) (fun _ _ _ h => h) (Or.inl ⟨by rfl, ?_⟩) (by assumption) ?_
                  rotate_left
                  · (intro w' hSw; (try dsimp only at hSw); go_simp; try with_reducible rfl)
                  try simp only [Act.put, List.setIfInBounds_toArray, List.set_cons_zero, List.set_cons_succ]
                  refine wpAnyH_ready (rs := [14]) (by kernel_rfl) (by simp) ?_
                  refine AllReadyH.cons rfl (fun K hK => ?_) ?_
                  · go_simp
                    refine hK.out _ _ ?_ (fun hHeld2 => ?_)
                    · exact ⟨K7.out.2.2.2.1, K7.out.2.2.2.2.1⟩
                    clear hK K hHeld hHeld2
                    try simp only [Act.put, List.setIfInBounds_toArray, List.set_cons_zero, List.set_cons_succ]
                    refine wpAnyH_done (by kernel_rfl) ?_ _
                    refine NoPanic.normal ?_
                    go_wp2
                    exact ⟨⟨k + 1, some ⟨g, 0, none⟩, cap, by omega, by go_num, K7.out.1, K7.out.2.1, K7.out.2.2.1, K7.out.2.2.2.2.2.1, K7.out.2.2.2.2.2.2.1, K7.out.2.2.2.2.2.2.2⟩, by simp [RowKit.intOf]; omega⟩
                  exact AllReadyH.nil
                exact AllReadyH.nil
              exact AllReadyH.nil
            exact AllReadyH.nil
          refine AllReadyH.cons rfl (fun K hK => ?_) ?_
          · go_simp
            refine (HPC.out _).mono ?_
            rintro e w5 ⟨cv, rfl, ho5, hb5⟩
            obtain ⟨va5, vc5, rfl⟩ := own_slice ho5
            obtain ⟨HO5, HBR5, HB5, c5a, c5b, c5t, z5, z5n, z5t, z5f⟩ := KEEP.out _ w5 _ ho5 hb5 ⟨rfl, rfl, rfl, rfl⟩
            clear ho5 hb5
            refine hK.out _ _ ?_ (fun hHeld2 => ?_)
            · exact ⟨c5a, c5b⟩
            clear hK K hHeld
            have hHeld := hHeld2
            clear hHeld2
            try simp only [Act.put, List.setIfInBounds_toArray, List.set_cons_zero, List.set_cons_succ]
            refine wpAnyH_ready (rs := [4, 10]) (by kernel_rfl) (by simp) ?_
            refine AllReadyH.cons rfl (fun K hK => ?_) ?_
            · go_simp
              refine hK.out _ _ ?_ (fun hHeld2 => ?_)
              · exact ⟨c5a, c5b⟩
              clear hK K hHeld
              have hHeld := hHeld2
              clear hHeld2
              try simp only [Act.put, List.setIfInBounds_toArray, List.set_cons_zero, List.set_cons_succ]
              refine wpAnyH_ready (rs := [10]) (by kernel_rfl) (by simp) ?_
              refine AllReadyH.cons rfl (fun K hK => ?_) ?_
              · go_simp
                have c6a := (pastA w5 (.cells #[.slice va5 XS.length vc5] 35) ⟨wr.heap.size, 2, none⟩ (by show wr.heap.size < _; omega)).trans c5a
                have c6b := (pastA w5 (.cells #[.slice va5 XS.length vc5] 35) ⟨fg, fo + 1, none⟩ (by show fg < _; omega)).trans c5b
                have c6t := (pastA w5 (.cells #[.slice va5 XS.length vc5] 35) ⟨w7.heap.size, 8, none⟩ (by show w7.heap.size < _; omega)).trans c5t
                refine hK.out _ _ ?_ (fun hHeld2 => ?_)
                · exact ⟨c6a, c6b⟩
                clear hK K hHeld
                have hHeld := hHeld2
                clear hHeld2
                try simp only [Act.put, List.setIfInBounds_toArray, List.set_cons_zero, List.set_cons_succ]
                refine wpAnyH_ready (rs := [11]) (by kernel_rfl) (by simp) ?_
                refine AllReadyH.cons rfl (fun K hK => ?_) ?_
                · refine step_append_lies _ rfl _ _ 77 rfl (B2) 35 i0 (.slice none 0 0) 1 24 Tryz.underlying77 hi hz0 hy1 hz2 rfl (by decide) (.slice ua k uc) L.length (L.map (·.1)) (by simp [Act.eval, Act.put]) (own_below HOW.out (below_alike (HB5.out.alloc z5 (.cells #[.slice va5 XS.length vc5] 35)) rfl rfl rfl rfl)) ⟨w5.heap.size, 0, none⟩ 1 1 [.slice va5 XS.length vc5] (by simp [Act.eval, Act.put]) rfl ?c1 ?c2 (by decide) ?c3 ?c4 ?c5 _ rfl ?_
                  case c1 => exact one_icell w5 _ _
                  case c2 => intro u hu; simp at hu; subst hu; rfl
                  case c3 => have := HLL.out; unfold maxLen; omega
                  case c4 => have := HLL.out; omega
                  case c5 => show (B2) ≤ (w5.alloc (.cells #[.slice va5 XS.length vc5] 35)).heap.size; rw [World.size_alloc]; have := HBS.out; omega
                  intro g cap w6 hown6 hgrow6 hat6 hlt6
                  obtain ⟨k1, k2, k3, k4, k5, k6, K7⟩ := STEP.out w5 _ w6 (.slice va5 XS.length vc5) g cap HO5.out HBR5.out (below_alike ((Below.refl _ w5).alloc (Nat.le_refl _) (.cells #[.slice va5 XS.length vc5] 35)) rfl rfl rfl rfl) hown6 hgrow6
                  clear hown6 hgrow6 hat6
                  refine hK.out _ _ ?_ (fun hHeld2 => ?_)
                  · exact ⟨k1, k2⟩
                  clear hK K hHeld
                  have hHeld := hHeld2
                  clear hHeld2
                  try simp only [Act.put, List.setIfInBounds_toArray, List.set_cons_zero, List.set_cons_succ]
                  refine wpAnyH_take (i := 12) (v := ?_) rfl (by kernel_rfl) (by kernel_rfl) (by kernel_rfl) (fun _ _ _ h => h) (Or.inl ⟨by rfl, ?_⟩) (by assumption) ?_
                  rotate_left
                  · (intro w' hSw; (try dsimp only at hSw); go_simp; try with_reducible rfl)
                  try simp only [Act.put, List.setIfInBounds_toArray, List.set_cons_zero, List.set_cons_succ]
                  refine wpAnyH_take (i := 13) (v := ?_) rfl (by kernel_rfl) (by kernel_rfl) (by kernel_rfl) (fun _ _ _ h => h) (Or.inl ⟨by rfl, ?_⟩) (by assumption) ?_
                  rotate_left
                  · (intro w' hSw; (try dsimp only at hSw); go_simp; try with_reducible rfl)
                  try simp only [Act.put, List.setIfInBounds_toArray, List.set_cons_zero, List.set_cons_succ]
                  refine wpAnyH_ready (rs := [14]) (by kernel_rfl) (by simp) ?_
                  refine AllReadyH.cons rfl (fun K hK => ?_) ?_
                  · go_simp
                    refine hK.out _ _ ?_ (fun hHeld2 => ?_)
                    · exact ⟨K7.out.2.2.2.1, K7.out.2.2.2.2.1⟩
                    clear hK K hHeld hHeld2
                    try simp only [Act.put, List.setIfInBounds_toArray, List.set_cons_zero, List.set_cons_succ]
                    refine wpAnyH_done (by kernel_rfl) ?_ _
                    refine NoPanic.normal ?_
                    go_wp2
                    exact ⟨⟨k + 1, some ⟨g, 0, none⟩, cap, by omega, by go_num, K7.out.1, K7.out.2.1, K7.out.2.2.1, K7.out.2.2.2.2.2.1, K7.out.2.2.2.2.2.2.1, K7.out.2.2.2.2.2.2.2⟩, by simp [RowKit.intOf]; omega⟩
                  exact AllReadyH.nil
                exact AllReadyH.nil
              exact AllReadyH.nil
            refine AllReadyH.cons rfl (fun K hK => ?_) ?_
            · go_simp
              have c6a := (pastA w5 (.cells #[.slice va5 XS.length vc5] 35) ⟨wr.heap.size, 2, none⟩ (by show wr.heap.size < _; omega)).trans c5a
              have c6b := (pastA w5 (.cells #[.slice va5 XS.length vc5] 35) ⟨fg, fo + 1, none⟩ (by show fg < _; omega)).trans c5b
              have c6t := (pastA w5 (.cells #[.slice va5 XS.length vc5] 35) ⟨w7.heap.size, 8, none⟩ (by show w7.heap.size < _; omega)).trans c5t
              refine hK.out _ _ ?_ (fun hHeld2 => ?_)
              · exact ⟨c6a, c6b⟩
              clear hK K hHeld
              have hHeld := hHeld2
              clear hHeld2
              try simp only [Act.put, List.setIfInBounds_toArray, List.set_cons_zero, List.set_cons_succ]
              refine wpAnyH_ready (rs := [4]) (by kernel_rfl) (by simp) ?_
              refine AllReadyH.cons rfl (fun K hK => ?_) ?_
              · go_simp
                refine hK.out _ _ ?_ (fun hHeld2 => ?_)
                · exact ⟨c6a, c6b⟩
                clear hK K hHeld
                have hHeld := hHeld2
                clear hHeld2
                try simp only [Act.put, List.setIfInBounds_toArray, List.set_cons_zero, List.set_cons_succ]
                refine wpAnyH_ready (rs := [11]) (by kernel_rfl) (by simp) ?_
                refine AllReadyH.cons rfl (fun K hK => ?_) ?_
                · refine step_append_lies _ rfl _ _ 77 rfl (B2) 35 i0 (.slice none 0 0) 1 24 Tryz.underlying77 hi hz0 hy1 hz2 rfl (by decide) (.slice ua k uc) L.length (L.map (·.1)) (by simp [Act.eval, Act.put]) (own_below HOW.out (below_alike (HB5.out.alloc z5 (.cells #[.slice va5 XS.length vc5] 35)) rfl rfl rfl rfl)) ⟨w5.heap.size, 0, none⟩ 1 1 [.slice va5 XS.length vc5] (by simp [Act.eval, Act.put]) rfl ?c1 ?c2 (by decide) ?c3 ?c4 ?c5 _ rfl ?_
                  case c1 => exact one_icell w5 _ _
                  case c2 => intro u hu; simp at hu; subst hu; rfl
                  case c3 => have := HLL.out; unfold maxLen; omega
                  case c4 => have := HLL.out; omega
                  case c5 => show (B2) ≤ (w5.alloc (.cells #[.slice va5 XS.length vc5] 35)).heap.size; rw [World.size_alloc]; have := HBS.out; omega
                  intro g cap w6 hown6 hgrow6 hat6 hlt6
                  obtain ⟨k1, k2, k3, k4, k5, k6, K7⟩ := STEP.out w5 _ w6 (.slice va5 XS.length vc5) g cap HO5.out HBR5.out (below_alike ((Below.refl _ w5).alloc (Nat.le_refl _) (.cells #[.slice va5 XS.length vc5] 35)) rfl rfl rfl rfl) hown6 hgrow6
                  clear hown6 hgrow6 hat6
                  refine hK.out _ _ ?_ (fun hHeld2 => ?_)
                  · exact ⟨k1, k2⟩
                  clear hK K hHeld
                  have hHeld := hHeld2
                  clear hHeld2
                  try simp only [Act.put, List.setIfInBounds_toArray, List.set_cons_zero, List.set_cons_succ]
                  refine wpAnyH_take (i := 12) (v := ?_) rfl (by kernel_rfl) (by kernel_rfl) (by kernel_rfl) (fun _ _ _ h => h) (Or.inl ⟨by rfl, ?_⟩) (by assumption) ?_
                  rotate_left
                  · (intro w' hSw; (try dsimp only at hSw); go_simp; try with_reducible rfl)
                  try simp only [Act.put, List.setIfInBounds_toArray, List.set_cons_zero, List.set_cons_succ]
                  refine wpAnyH_take (i := 13) (v := ?_) rfl (by kernel_rfl) (by kernel_rfl) (by kernel_rfl) (fun _ _ _ h => h) (Or.inl ⟨by rfl, ?_⟩) (by assumption) ?_
                  rotate_left
                  · (intro w' hSw; (try dsimp only at hSw); go_simp; try with_reducible rfl)
                  try simp only [Act.put, List.setIfInBounds_toArray, List.set_cons_zero, List.set_cons_succ]
                  refine wpAnyH_ready (rs := [14]) (by kernel_rfl) (by simp) ?_
                  refine AllReadyH.cons rfl (fun K hK => ?_) ?_
                  · go_simp
                    refine hK.out _ _ ?_ (fun hHeld2 => ?_)
                    · exact ⟨K7.out.2.2.2.1, K7.out.2.2.2.2.1⟩
                    clear hK K hHeld hHeld2
                    try simp only [Act.put, List.setIfInBounds_toArray, List.set_cons_zero, List.set_cons_succ]
                    refine wpAnyH_done (by kernel_rfl) ?_ _
                    refine NoPanic.normal ?_
                    go_wp2
                    exact ⟨⟨k + 1, some ⟨g, 0, none⟩, cap, by omega, by go_num, K7.out.1, K7.out.2.1, K7.out.2.2.1, K7.out.2.2.2.2.2.1, K7.out.2.2.2.2.2.2.1, K7.out.2.2.2.2.2.2.2⟩, by simp [RowKit.intOf]; omega⟩
                  exact AllReadyH.nil
                exact AllReadyH.nil
              exact AllReadyH.nil
            exact AllReadyH.nil
          exact AllReadyH.nil
        · have hge : ¬ (k : Int) < (n_fol : Int) := by omega
          obtain rfl : n_fol = k := by omega
          have HQ : Hid (RTabs wr w7.heap.size ∧ Below w.heap.size w wr) := by
            have hb := HLO.out
            have tc : ∀ i v, (#[.slice a_cat n_cat c_cat, .slice a_com n_com c_com, .slice a_clu n_clu c_clu, .slice a_wor n_wor c_wor, .slice a_scr n_scr c_scr, .slice (some ⟨rb_dec, ro_dec, none⟩) n_dec rc_dec, .slice (some ⟨rb_fol, ro_fol, none⟩) n_fol rc_fol, P1, .slice ua n_fol uc] : Array Value)[i]? = some v → wr.cell? ⟨w7.heap.size, i, none⟩ = some v := fun i v h => by rw [HTB.out.cell]; exact h
            refine ⟨⟨⟨_, tc 0 _ rfl, HW_cat.out.below hb (Nat.le_refl _)⟩, ⟨_, tc 1 _ rfl, HW_com.out.below hb (Nat.le_refl _)⟩, ⟨_, tc 2 _ rfl, HW_clu.out.below hb (Nat.le_refl _)⟩, ⟨_, tc 3 _ rfl, HW_wor.out.below hb (Nat.le_refl _)⟩, ⟨_, tc 4 _ rfl, HW_scr.out.below hb (Nat.le_refl _)⟩, ⟨_, tc 5 _ rfl, HW_dec.out.below hb (Nat.le_refl _)⟩, ⟨_, tc 6 _ rfl, HW_fol.out.below hb (Nat.le_refl _)⟩, ⟨_, tc 7 _ rfl, HX2.out.lv (by have := HLD.out; omega)⟩, ⟨_, tc 8 _ rfl, ?_⟩⟩, HBA.out.trans (hb.mono HBA.out.size)⟩
            have h := HLS.out
            rw [List.take_of_length_le (by have h2 := HLF.out; have h3 := HN_fol.out; omega)] at h
            exact h.lv (by have h2 := HLF.out; omega)
          clear HTB HLS HLO HX2
          go_wp2
          go_ret
          exact ⟨_, rfl, HQ.out.1, HQ.out.2⟩
end Go.Proofs.YtlidgjkipbijlaaGreatDoor.prp
end
