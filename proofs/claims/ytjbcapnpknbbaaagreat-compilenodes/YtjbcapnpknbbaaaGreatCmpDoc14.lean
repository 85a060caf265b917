/- The document's groups. -/
import Derived.Test.YtjbcapnpknbbaaaGreatBndCmpDoc13
import Derived.Maps.AppendAt
import Derived.Deep.LoopGhost
import Derived.Deep.CutBlock
set_option linter.unusedVariables false
set_option linter.unusedSimpArgs false
namespace Go.Proofs.YtjbcapnpknbbaaaGreat.cmp
open Go.RowKit nod
open Go.Proofs.YtjbcapnpknbbaaaGreat.rng (R RV info_parts)
open Go.Proofs.YtjbcapnpknbbaaaGreat.low (plN setsN)

set_option maxRecDepth 10000 in
set_option maxHeartbeats 8000000 in
theorem groups_any (t : Nd) (v : Value) (w : World) (hv : NV w.heap.size w t v) (hsz : t.sz ≤ 600) (hpl : plN t 0 = true) :
    Calls Tryz.prog 20 #[v] w fun e w' => Below w.heap.size w w' ∧ ((grpD t = none ∧ e = .returned (.tuple #[.slice none 0 0, .bool false])) ∨ (∃ nms va vc, grpD t = some nms ∧ nms.length ≤ 21 ∧ e = .returned (.tuple #[.slice va nms.length vc, .bool true]) ∧ w'.ownsRow w.heap.size 9 1 (.slice va nms.length vc) nms.length (nms.map Value.string))) := by
  obtain ⟨is, his, hs0, hs1, hs2⟩ := info_parts infoStr
  obtain ⟨_, _, h9, h13⟩ := gN_fold _ t 0 G0 (Nat.le_refl _) hpl
  have H9 : Hid (∀ g ∈ ndN 9 t, 0 ≤ g.a ∧ g.a ≤ 20) := h9
  have H13 : Hid (∀ g ∈ ndN 13 t, 1 ≤ g.a ∧ g.a ≤ 20) := h13
  have HV : Hid (∀ W, Below w.heap.size w W → NV w.heap.size W t v) := fun W h => hv.keep h
  have hl9 := len_ndN 9 _ t (Nat.le_refl _)
  have hl13 := len_ndN 13 _ t (Nat.le_refl _)
  obtain ⟨k, m, a, b, g, n, st, ks, sa, sc, ao, cap, hT, rfl, _⟩ := hv.open
  obtain ⟨sl, hsl⟩ : ∃ sl, st.length = sl := ⟨_, rfl⟩
  obtain ⟨nk, hnk⟩ : ∃ nk, ks.length = nk := ⟨_, rfl⟩
  rw [hsl, hnk] at HV ⊢
  obtain ⟨L, hL⟩ : ∃ L, ndN 9 t = L := ⟨_, rfl⟩
  obtain ⟨L2, hL2⟩ : ∃ L2, ndN 13 t = L2 := ⟨_, rfl⟩
  have CN9 := fun W hW => nodes_any 9 (.inl rfl) _ t _ w.heap.size W (Nat.le_refl _) hsz (HV.out W hW) hW.size
  have CN13 := fun W hW => nodes_any 13 (.inr rfl) _ t _ w.heap.size W (Nat.le_refl _) hsz (HV.out W hW) hW.size
  have HGD : Hid (grpD t = match runD L ([NB0], List.replicate 21 false) with | none => none | some s => if L2.all (fun k => decide (k.a < s.1.length)) then some s.1 else none) := by unfold Hid grpD; rw [hL, hL2]; cases runD L ([NB0], List.replicate 21 false) <;> rfl
  rw [hL] at CN9 H9 hl9
  rw [hL2] at CN13 H13 hl13
  obtain ⟨gd, hgd⟩ : ∃ gd, grpD t = gd := ⟨_, rfl⟩
  rw [hgd] at HGD ⊢
  clear hL hL2 hgd hT hv h9 h13 hpl
  obtain ⟨ln, hln⟩ : ∃ ln, L.length = ln := ⟨_, rfl⟩
  obtain ⟨ln2, hln2⟩ : ∃ ln2, L2.length = ln2 := ⟨_, rfl⟩
  have HLN : Hid (L.length = ln) := hln
  have HLN2 : Hid (L2.length = ln2) := hln2
  rw [hln] at hl9 CN9
  rw [hln2] at hl13 CN13
  have W3 : Below w.heap.size w (((w.alloc (.cells #[.int .i64 k, .int .i64 m, .int .i64 a, .int .i64 b, .bool g, .string n, .slice sa sl sc, .slice ao nk cap] 25)).alloc (.cells #[.string NB0] 9)).alloc (.cells ((List.replicate 21 false).map Value.bool).toArray 4)) := ((((Below.refl _ w).alloc (Nat.le_refl _) _).alloc (by simp) _).alloc (by simp; omega) _)
  have C1 := CN9 _ W3
  have HX3 : Hid (Bk (((w.alloc (.cells #[.int .i64 k, .int .i64 m, .int .i64 a, .int .i64 b, .bool g, .string n, .slice sa sl sc, .slice ao nk cap] 25)).alloc (.cells #[.string NB0] 9)).alloc (.cells ((List.replicate 21 false).map Value.bool).toArray 4)) w.heap.size #[.int .i64 k, .int .i64 m, .int .i64 a, .int .i64 b, .bool g, .string n, .slice sa sl sc, .slice ao nk cap] 25) := ((Bk.new w _ _).past _).past _
  have HM3 : Hid (Bk (((w.alloc (.cells #[.int .i64 k, .int .i64 m, .int .i64 a, .int .i64 b, .bool g, .string n, .slice sa sl sc, .slice ao nk cap] 25)).alloc (.cells #[.string NB0] 9)).alloc (.cells ((List.replicate 21 false).map Value.bool).toArray 4)) (w.heap.size + 1 + 1) ((List.replicate 21 false).map Value.bool).toArray 4) := by
    have hza : ((w.alloc (.cells #[.int .i64 k, .int .i64 m, .int .i64 a, .int .i64 b, .bool g, .string n, .slice sa sl sc, .slice ao nk cap] 25)).alloc (.cells #[.string NB0] 9)).heap.size = w.heap.size + 1 + 1 := by simp
    have := Bk.new ((w.alloc (.cells #[.int .i64 k, .int .i64 m, .int .i64 a, .int .i64 b, .bool g, .string n, .slice sa sl sc, .slice ao nk cap] 25)).alloc (.cells #[.string NB0] 9)) ((List.replicate 21 false).map Value.bool).toArray 4
    rw [hza] at this; exact this
  have HO3 : Hid ((((w.alloc (.cells #[.int .i64 k, .int .i64 m, .int .i64 a, .int .i64 b, .bool g, .string n, .slice sa sl sc, .slice ao nk cap] 25)).alloc (.cells #[.string NB0] 9)).alloc (.cells ((List.replicate 21 false).map Value.bool).toArray 4)).ownsRow w.heap.size 9 1 (.slice (some ⟨w.heap.size + 1, 0, none⟩) 1 1) 1 ([NB0].map Value.string)) := by
    have := World.ownsRow_lit (base := w.heap.size) (e := 9) (size := 1) (w.alloc (.cells #[.int .i64 k, .int .i64 m, .int .i64 a, .int .i64 b, .bool g, .string n, .slice sa sl sc, .slice ao nk cap] 25)) #[.string NB0] 1 (by simp) (by decide) rfl
    have hzb : (w.alloc (.cells #[.int .i64 k, .int .i64 m, .int .i64 a, .int .i64 b, .bool g, .string n, .slice sa sl sc, .slice ao nk cap] 25)).heap.size = w.heap.size + 1 := by simp
    rw [hzb] at this
    exact this.alloc _
  have HW3 : Hid (Below w.heap.size w (((w.alloc (.cells #[.int .i64 k, .int .i64 m, .int .i64 a, .int .i64 b, .bool g, .string n, .slice sa sl sc, .slice ao nk cap] 25)).alloc (.cells #[.string NB0] 9)).alloc (.cells ((List.replicate 21 false).map Value.bool).toArray 4))) := W3
  have x0 := HX3.out.cell 0 (u := .int .i64 k) rfl; have x1 := HX3.out.cell 1 (u := .int .i64 m) rfl; have x2 := HX3.out.cell 2 (u := .int .i64 a) rfl; have x3 := HX3.out.cell 3 (u := .int .i64 b) rfl; have x4 := HX3.out.cell 4 (u := .bool g) rfl; have x5 := HX3.out.cell 5 (u := .string n) rfl; have x6 := HX3.out.cell 6 (u := .slice sa sl sc) rfl; have x7 := HX3.out.cell 7 (u := .slice ao nk cap) rfl
  clear CN9 W3 hln hln2 hsz
  have hmk : ∀ w, (Instr.makeSlice 80 (.int .i64 21) (.int .i64 21)).run Tryz.prog w = .ok (.slice (some ⟨w.heap.size, 0, none⟩) 21 21) (w.alloc (.cells ((List.replicate 21 false).map Value.bool).toArray 4)) := fun _ => by kernel_rfl
  go_enter Tryz.func20, Tryz.ntmps20
  go_wp2_with fail
  clear hmk x0 x1 x2 x3 x4 x5 x6 x7
  go_at_call 60
  refine C1.mono ?_
  rintro e w4 ⟨v1, xs, rfl, ho, hnr, hb⟩
  obtain ⟨wa, hwa⟩ : ∃ wa, w.alloc (.cells #[.int .i64 k, .int .i64 m, .int .i64 a, .int .i64 b, .bool g, .string n, .slice sa sl sc, .slice ao nk cap] 25) = wa := ⟨_, rfl⟩
  have hza : wa.heap.size = w.heap.size + 1 := by rw [← hwa]; simp
  have hba : Below w.heap.size w wa := by rw [← hwa]; exact (Below.refl _ w).alloc (Nat.le_refl _) _
  have HBA : Hid (Below w.heap.size w wa) := hba
  have HXA : Hid (Bk wa w.heap.size #[.int .i64 k, .int .i64 m, .int .i64 a, .int .i64 b, .bool g, .string n, .slice sa sl sc, .slice ao nk cap] 25) := by unfold Hid; rw [← hwa]; exact Bk.new w _ _
  have hb34 : Below wa.heap.size wa (((w.alloc (.cells #[.int .i64 k, .int .i64 m, .int .i64 a, .int .i64 b, .bool g, .string n, .slice sa sl sc, .slice ao nk cap] 25)).alloc (.cells #[.string NB0] 9)).alloc (.cells ((List.replicate 21 false).map Value.bool).toArray 4)) := by rw [hwa]; exact ((Below.refl _ wa).alloc (Nat.le_refl _) _).alloc (by simp) _
  have hs3 := hb34.size
  have hb4 : Below wa.heap.size wa w4 := hb34.trans (below_less hb hs3)
  obtain ⟨ga, gn, gc, rfl⟩ := own_form ho
  obtain rfl : gn = ln := by
    rcases ho.2 with ⟨e, h0⟩ | ⟨g1, c1, cu1, e, _⟩
    · cases e; exact h0.symm
    · cases e; rfl
  have HM4 : Hid (Bk w4 (w.heap.size + 1 + 1) ((List.replicate 21 false).map Value.bool).toArray 4) := HM3.out.on hb
  have HO4 : Hid (w4.ownsRow wa.heap.size 9 1 (.slice (some ⟨w.heap.size + 1, 0, none⟩) 1 1) 1 ([NB0].map Value.string)) := by
    unfold Hid
    have := rng.own_below' HO3 hb
    refine ⟨this.1, ?_⟩
    rcases this.2 with ⟨e, _⟩ | ⟨g1, c1, cu1, e, _, rest⟩
    · cases e
    · refine .inr ⟨g1, c1, cu1, e, ?_, rest⟩
      cases e; omega
  have HG4 : Hid (w4.ownsRow wa.heap.size 25 8 (.slice ga gn gc) gn xs) := own_less ho hs3
  have HNR : Hid (NR L xs) := hnr
  have HW4 : Hid (Below wa.heap.size wa w4) := hb4
  have hgc : gn ≤ gc ∧ gc ≤ 9223372036854775807 := by
    rcases ho.2 with ⟨e, h0⟩ | ⟨g1, c1, cu1, e, _, _, h1, h2, _⟩
    · cases e; exact ⟨by omega, by omega⟩
    · cases e; exact ⟨h1, by unfold maxLen at h2; omega⟩
  obtain ⟨hgc1, hgc2⟩ := hgc
  clear C1 ho hnr hb hb4 hb34 hs3 HX3 HM3 HO3 HW3 hba hwa
  obtain ⟨mb, hmbe⟩ : ∃ mb, w.heap.size + 1 + 1 = mb := ⟨_, rfl⟩
  have hmb : wa.heap.size ≤ mb := by omega
  rw [hmbe] at HM4
  have HR0 : Hid (runD L ([NB0], List.replicate 21 false) = runD (L.drop 0) ([NB0], List.replicate 21 false)) := rfl
  have HME : Hid (w.heap.size + 1 + 1 = mb) := hmbe
  clear hmbe
  go_wp2
  rw [HME.out]
  clear HME
  go_loopg [4, 15] gn (fun gk v4 i wr => ∃ (j n4 vc : Nat) (va : Option Addr) (Nm : List ByteArray) (Mt : List Bool), v4 = .slice va n4 vc ∧ j + gk = gn ∧ i = .int .i64 j ∧ Hid (runD L ([NB0], List.replicate 21 false) = runD (L.drop j) (Nm, Mt)) ∧ Hid (Nm.length = n4) ∧ n4 ≤ 21 ∧ Hid (Mt.length = 21) ∧ Hid (wr.ownsRow wa.heap.size 9 1 (.slice va n4 vc) n4 (Nm.map Value.string)) ∧ Hid (wr.ownsRow wa.heap.size 25 8 (.slice ga gn gc) gn xs) ∧ Hid (Bk wr mb (Mt.map Value.bool).toArray 4) ∧ Hid (Below wa.heap.size wa wr))
  case atStart => exact ⟨0, 1, 1, _, [NB0], List.replicate 21 false, rfl, by omega, rfl, HR0, rfl, by omega, by unfold Hid; simp, HO4, HG4, HM4, HW4⟩
  case round =>
    obtain ⟨j, n4, vc, va, Nm, Mt, rfl, hj, rfl, HRUN, HNM, h21, HML, HO, HG, HM, HW⟩ := hrel
    clear HO4 HG4 HM4 HW4 HR0
    by_cases hlt : j < gn
    · obtain ⟨tt, htt⟩ := getX HLN.out hlt
      obtain ⟨gk0, gm0, gb0, gg0, gsa, gsl, gsc, gao, gnk, gcap, q0, q1, q2, q3, q4, q5, q6, q7⟩ := HNR.out.get j tt htt
      obtain ⟨hta0, hta1⟩ := H9.out tt (List.mem_of_getElem? htt)
      obtain ⟨TN, hTN⟩ := Int.eq_ofNat_of_zero_le hta0
      have hT20 : TN ≤ 20 := by omega
      have HRUN1 : Hid (runD (L.drop j) (Nm, Mt) = if 0 < (TN : Int) ∧ Mt.getD TN false = true then none else runD (L.drop (j + 1)) (stepD (Nm, Mt) TN tt.name)) := by
        unfold Hid
        rw [dropX htt, runD, hTN]
        rfl
      rw [hTN] at q2
      obtain ⟨gg, rfl⟩ : ∃ gg, ga = some ⟨gg, 0, none⟩ := by
        rcases HG.out.2 with ⟨e, h0⟩ | ⟨g1, c1', cu1, e, _⟩
        · omega
        · cases e; exact ⟨g1, rfl⟩
      have r0 := HG.out.cellAt (j * 8) (by omega)
      have r1 := HG.out.cellAt (j * 8 + 1) (by omega)
      have r2 := HG.out.cellAt (j * 8 + 2) (by omega)
      have r3 := HG.out.cellAt (j * 8 + 3) (by omega)
      have r4 := HG.out.cellAt (j * 8 + 4) (by omega)
      have r5 := HG.out.cellAt (j * 8 + 5) (by omega)
      have r6 := HG.out.cellAt (j * 8 + 6) (by omega)
      have r7 := HG.out.cellAt (j * 8 + 7) (by omega)
      rw [q0] at r0; rw [q1] at r1; rw [q2] at r2; rw [q3] at r3; rw [q4] at r4; rw [q5] at r5; rw [q6] at r6; rw [q7] at r7
      obtain ⟨nm, hnm⟩ : ∃ nm, tt.name = nm := ⟨_, rfl⟩
      rw [hnm] at r5 HRUN1
      have hsr := HW.out.size
      have B1 : Below wr.heap.size wr (wr.alloc (.cells #[.int .i64 gk0, .int .i64 gm0, .int .i64 (TN : Int), .int .i64 gb0, .bool gg0, .string nm, .slice gsa gsl gsc, .slice gao gnk gcap] 25)) := (Below.refl _ wr).alloc (Nat.le_refl _) _
      have HT1 : Hid (Bk (wr.alloc (.cells #[.int .i64 gk0, .int .i64 gm0, .int .i64 (TN : Int), .int .i64 gb0, .bool gg0, .string nm, .slice gsa gsl gsc, .slice gao gnk gcap] 25)) wr.heap.size #[.int .i64 gk0, .int .i64 gm0, .int .i64 (TN : Int), .int .i64 gb0, .bool gg0, .string nm, .slice gsa gsl gsc, .slice gao gnk gcap] 25) := Bk.new wr _ _
      have HO1 : Hid ((wr.alloc (.cells #[.int .i64 gk0, .int .i64 gm0, .int .i64 (TN : Int), .int .i64 gb0, .bool gg0, .string nm, .slice gsa gsl gsc, .slice gao gnk gcap] 25)).ownsRow wa.heap.size 9 1 (.slice va n4 vc) n4 (Nm.map Value.string)) := rng.own_below' HO.out B1
      have HG1 : Hid ((wr.alloc (.cells #[.int .i64 gk0, .int .i64 gm0, .int .i64 (TN : Int), .int .i64 gb0, .bool gg0, .string nm, .slice gsa gsl gsc, .slice gao gnk gcap] 25)).ownsRow wa.heap.size 25 8 (.slice (some ⟨gg, 0, none⟩) gn gc) gn xs) := rng.own_below' HG.out B1
      have HM1 : Hid (Bk (wr.alloc (.cells #[.int .i64 gk0, .int .i64 gm0, .int .i64 (TN : Int), .int .i64 gb0, .bool gg0, .string nm, .slice gsa gsl gsc, .slice gao gnk gcap] 25)) mb (Mt.map Value.bool).toArray 4) := HM.out.on B1
      have hmlt := HM.out.lt
      have HW1 : Hid (Below wa.heap.size wa (wr.alloc (.cells #[.int .i64 gk0, .int .i64 gm0, .int .i64 (TN : Int), .int .i64 gb0, .bool gg0, .string nm, .slice gsa gsl gsc, .slice gao gnk gcap] 25))) := HW.out.trans (below_less B1 hsr)
      obtain ⟨bb, hbb⟩ := getX HML.out (show TN < 21 by omega)
      have hbd : Mt.getD TN false = bb := by rw [List.getD_eq_getElem?_getD, hbb]; rfl
      have hm0 : (Mt.map Value.bool).toArray[TN]? = some (.bool bb) := by rw [List.getElem?_toArray, List.getElem?_map, hbb]; rfl
      have m1 := HM1.out.cell TN hm0
      obtain ⟨w1, hw1⟩ : ∃ w1, (wr.alloc (.cells #[.int .i64 gk0, .int .i64 gm0, .int .i64 (TN : Int), .int .i64 gb0, .bool gg0, .string nm, .slice gsa gsl gsc, .slice gao gnk gcap] 25)) = w1 := ⟨_, rfl⟩
      have HW1N : Hid ((wr.alloc (.cells #[.int .i64 gk0, .int .i64 gm0, .int .i64 (TN : Int), .int .i64 gb0, .bool gg0, .string nm, .slice gsa gsl gsc, .slice gao gnk gcap] 25)) = w1) := hw1
      rw [hw1] at HT1 HO1 HG1 HM1 HW1 m1
      have HBB : Hid (Mt[TN]? = some bb) := hbb
      obtain ⟨tb, htb⟩ : ∃ tb, wr.heap.size = tb := ⟨_, rfl⟩
      have HTB : Hid (wr.heap.size = tb) := htb
      have hmtb : mb < tb := by omega
      rw [htb] at HT1
      clear htb
      have u2 := HT1.out.cell 2 (u := .int .i64 (TN : Int)) rfl
      clear htt q0 q1 q2 q3 q4 q5 q6 q7 hTN hta0 hta1 hw1 B1 hm0 hbb HO HG HM HW hnm
      by_cases hpos : 0 < TN
      · have hposI : (0 : Int) < (TN : Int) := by omega
        cases bb with
        | true =>
          have HN : Hid (gd = none) := by
            unfold Hid; rw [HGD.out, HRUN.out, HRUN1.out, if_pos ⟨hposI, hbd⟩]
          clear HRUN1 hbd
          go_upto_region 6 with fail
          rw [HW1N.out, HTB.out]
          go_wp2
          go_ret2
          exact ⟨HBA.out.trans (below_less HW1.out (by omega)), .inl ⟨HN.out, rfl⟩⟩
        | false =>
          have HRUN2 : Hid (runD L ([NB0], List.replicate 21 false) = runD (L.drop (j + 1)) (stepD (Nm, Mt) TN nm)) := by
            unfold Hid; rw [HRUN.out, HRUN1.out, if_neg (by rw [hbd]; exact fun h => by cases h.2)]
          clear HRUN1 HRUN hbd u2
          have hmt : Mt[TN]? = some false := HBB.out
          have hmc : (Mt.map Value.bool).toArray[TN]? = some (.bool false) := by rw [List.getElem?_toArray, List.getElem?_map, hmt]; rfl
          have m0 := HM1.out.cell TN hmc
          have mf := HM1.out.frozen TN
          have HM2 : Hid (Bk (w1.setCell ⟨mb, TN, none⟩ (.bool true)) mb ((Mt.set TN true).map Value.bool).toArray 4) := by
            unfold Hid
            have := HM1.out.set TN (.bool true)
            rw [List.setIfInBounds_toArray, ← List.map_set] at this
            exact this
          have HO2 : Hid ((w1.setCell ⟨mb, TN, none⟩ (.bool true)).ownsRow wa.heap.size 9 1 (.slice va n4 vc) n4 (Nm.map Value.string)) := HO1.out.kept (grown_set w1 mb _ _) (own_bk HO1.out HM1.out (by decide))
          have HG2 : Hid ((w1.setCell ⟨mb, TN, none⟩ (.bool true)).ownsRow wa.heap.size 25 8 (.slice (some ⟨gg, 0, none⟩) gn gc) gn xs) := HG1.out.kept (grown_set w1 mb _ _) (own_bk HG1.out HM1.out (by decide))
          have HT2 : Hid (Bk (w1.setCell ⟨mb, TN, none⟩ (.bool true)) tb #[.int .i64 gk0, .int .i64 gm0, .int .i64 (TN : Int), .int .i64 gb0, .bool gg0, .string nm, .slice gsa gsl gsc, .slice gao gnk gcap] 25) := HT1.out.apart (by omega) _
          have HW2 : Hid (Below wa.heap.size wa (w1.setCell ⟨mb, TN, none⟩ (.bool true))) := HW1.out.setCell (p := ⟨mb, TN, none⟩) hmb _
          have u2 := HT1.out.cell 2 (u := .int .i64 (TN : Int)) rfl
          have u5 := HT1.out.cell 5 (u := .string nm) rfl
          clear HM1 HO1 HG1 HT1 HW1 hmc hmt
          go_upto_region 6 with fail
          rw [HW1N.out, HTB.out]
          go_wp2
          go_loopg [4] (TN + 1 - n4) (fun gk2 v4 wx => ∃ (i n4' vc' : Nat) (va' : Option Addr), v4 = .slice va' n4' vc' ∧ i + gk2 = TN + 1 - n4 ∧ n4' = n4 + i ∧ Hid (wx.ownsRow wa.heap.size 9 1 (.slice va' n4' vc') n4' ((Nm ++ List.replicate i NB0).map Value.string)) ∧ Hid (wx.ownsRow wa.heap.size 25 8 (.slice (some ⟨gg, 0, none⟩) gn gc) gn xs) ∧ Hid (Bk wx mb ((Mt.set TN true).map Value.bool).toArray 4) ∧ Hid (Bk wx tb #[.int .i64 gk0, .int .i64 gm0, .int .i64 (TN : Int), .int .i64 gb0, .bool gg0, .string nm, .slice gsa gsl gsc, .slice gao gnk gcap] 25) ∧ Hid (Below wa.heap.size wa wx))
          case atStart => exact ⟨0, n4, vc, va, rfl, by omega, by omega, by unfold Hid; rw [List.replicate_zero, List.append_nil]; exact HO2.out, HG2, HM2, HT2, HW2⟩
          case round =>
            obtain ⟨i, n4', vc', va', rfl, hi4, rfl, HOx, HGx, HMx, HTx, HWx⟩ := hrel
            clear HO2 HG2 HM2 HT2 HW2 u2 u5
            have u2 := HTx.out.cell 2 (u := .int .i64 (TN : Int)) rfl
            have u5 := HTx.out.cell 5 (u := .string nm) rfl
            by_cases hin : n4 + i ≤ TN
            · have hinI : ((n4 + i : Nat) : Int) ≤ (TN : Int) := by omega
              have hs4 := HWx.out.size
              go_wp2_with (at_builtin; refine wpList_append_own_at _ rfl _ _ 32 rfl wa.heap.size 9 is (.string ⟨#[]⟩) 1 16 Tryz.underlying32 his hs0 hs1 hs2 rfl (by decide) _ _ _ rfl (HOx.out.alloc _) ⟨wr.heap.size, 0, none⟩ 1 1 [.string NB0] rfl rfl ?ca1 ?cb1 ?cc1 ?cd1 ?ce1 ?_)
              case ca1 => intro u x hx; rw [Addr.add_lit]; have := (Bk.new wr #[.string NB0] 9).cell u (u := x) (by simpa using hx); simpa using this
              case cb1 => intro u hu; simp at hu; subst hu; rfl
              case cc1 => unfold maxLen; omega
              case cd1 => omega
              case ce1 => simp; omega
              intro v'' w5 ho5 hg5 _ _
              obtain ⟨vb, vn, vcc, rfl⟩ := own_form ho5
              obtain rfl : vn = n4 + i + 1 := by
                rcases ho5.2 with ⟨e, h0⟩ | ⟨g1, c1, cu1, e, _⟩
                · omega
                · cases e; rfl
              have hob := (HOx.out.alloc (.cells #[.string NB0] 9))
              have HO6 : Hid (w5.ownsRow wa.heap.size 9 1 (.slice vb (n4 + (i + 1)) vcc) (n4 + (i + 1)) ((Nm ++ List.replicate (i + 1) NB0).map Value.string)) := by
                unfold Hid
                rw [hza, List.replicate_succ']
                simpa [List.append_assoc, Nat.add_assoc] using ho5
              have HG6 : Hid (w5.ownsRow wa.heap.size 25 8 (.slice (some ⟨gg, 0, none⟩) gn gc) gn xs) := (HGx.out.alloc _).kept hg5 (own_ne (HGx.out.alloc _) hob (by decide))
              have HM6 : Hid (Bk w5 mb ((Mt.set TN true).map Value.bool).toArray 4) := (hg5.block mb (HMx.out.past _).lt (fun e => by
                rcases own_bk hob (HMx.out.past _) (by decide) with e' | e'
                · rw [e'] at e; cases e
                · exact e' e.symm)).trans (HMx.out.past _)
              have HT6 : Hid (Bk w5 tb #[.int .i64 gk0, .int .i64 gm0, .int .i64 (TN : Int), .int .i64 gb0, .bool gg0, .string nm, .slice gsa gsl gsc, .slice gao gnk gcap] 25) := (hg5.block _ (HTx.out.past _).lt (fun e => by
                rcases own_bk hob (HTx.out.past _) (by decide) with e' | e'
                · rw [e'] at e; cases e
                · exact e' e.symm)).trans (HTx.out.past _)
              have HW6 : Hid (Below wa.heap.size wa w5) := (HWx.out.alloc hs4 _).grown hg5 (by simp; omega) (fun x e => (HOx.out.lt x e).1)
              clear ho5 hg5 hob u2 u5
              go_wp2
              go_roundg (gk - 1)
              case measure => omega
              case rel => exact ⟨i + 1, n4 + (i + 1), vcc, vb, by rfl, by omega, by omega, HO6, HG6, HM6, HT6, HW6⟩
            · have hinI : ¬ ((n4 + i : Nat) : Int) ≤ (TN : Int) := by omega
              have hrep : i = TN + 1 - n4 := by omega
              have HPAD : Hid (Nm ++ List.replicate i NB0 = padN Nm TN) := by unfold Hid padN; rw [hrep, HNM.out]
              have hpl : n4 + i ≤ 21 := by omega
              clear hrep
              have hidx : TN < n4 + i := by omega
              obtain ⟨sg, sc2, scur, esl, hsg, hsgg, hsn, hsm, _⟩ : ∃ g cap cur, Value.slice va' (n4 + i) vc' = .slice (some ⟨g, 0, none⟩) (n4 + i) cap ∧ wa.heap.size ≤ g ∧ wr.heap[g]? = some (.cells cur 9 (0, 0)) ∧ n4 + i ≤ cap ∧ cap ≤ maxLen ∧ True := by
                rcases HOx.out.2 with ⟨e, h0⟩ | ⟨g, cap, cur, e, h1, h2, h3, h4, _⟩
                · omega
                · exact ⟨g, cap, cur, e, h1, h2, h3, h4, trivial⟩
              obtain ⟨rfl, rfl⟩ : va' = some ⟨sg, 0, none⟩ ∧ vc' = sc2 := by cases esl; exact ⟨rfl, rfl⟩
              clear esl
              obtain ⟨st1, gr1⟩ := HOx.out.stored TN (.string nm)
              have hcs : ((Nm ++ List.replicate i NB0).map Value.string)[TN]? = some (.string ((Nm ++ List.replicate i NB0)[TN]'(by rw [List.length_append, HNM.out, List.length_replicate]; exact hidx))) := by
                rw [List.getElem?_map, List.getElem?_eq_getElem]; rfl
              have hcell : wr.cell? ⟨sg, TN, none⟩ = some (.string ((Nm ++ List.replicate i NB0)[TN]'(by rw [List.length_append, HNM.out, List.length_replicate]; exact hidx))) := by
                rw [HOx.out.cellAt TN (by omega)]; exact hcs
              generalize ((Nm ++ List.replicate i NB0)[TN]'(by rw [List.length_append, HNM.out, List.length_replicate]; exact hidx)) = oldnm at hcell hcs
              have hfz := HOx.out.frozenAt TN
              have hsd : stepD (Nm, Mt) TN nm = ((padN Nm TN).set TN nm, Mt.set TN true) := by unfold stepD; rw [if_pos (by omega)]
              have HO7 : Hid ((wr.setCell ⟨sg, TN, none⟩ (.string nm)).ownsRow wa.heap.size 9 1 (.slice (some ⟨sg, 0, none⟩) (n4 + i) vc') (n4 + i) ((stepD (Nm, Mt) TN nm).1.map Value.string)) := by
                unfold Hid
                rw [hsd, ← HPAD.out]
                simp only
                rw [List.map_set]; exact st1
              have HG7 : Hid ((wr.setCell ⟨sg, TN, none⟩ (.string nm)).ownsRow wa.heap.size 25 8 (.slice (some ⟨gg, 0, none⟩) gn gc) gn xs) := HGx.out.kept gr1 (own_ne HGx.out HOx.out (by decide))
              have HM7 : Hid (Bk (wr.setCell ⟨sg, TN, none⟩ (.string nm)) mb ((stepD (Nm, Mt) TN nm).2.map Value.bool).toArray 4) := by
                unfold Hid
                rw [hsd]
                exact HMx.out.apart (fun e => by
                  rcases own_bk HOx.out HMx.out (by decide) with e' | e'
                  · cases e'
                  · exact e' (by rw [e]; rfl)) _
              have HW7 : Hid (Below wa.heap.size wa (wr.setCell ⟨sg, TN, none⟩ (.string nm))) := HWx.out.setCell (p := ⟨sg, TN, none⟩) hsg _
              have HNL7 : Hid ((stepD (Nm, Mt) TN nm).1.length = n4 + i ∧ (stepD (Nm, Mt) TN nm).2.length = 21) := by
                unfold Hid
                rw [hsd]
                simp only [List.length_set, HML.out, and_true]
                rw [← HPAD.out, List.length_append, HNM.out, List.length_replicate]
              have hidxI : (TN : Int) < ((n4 + i : Nat) : Int) := by omega
              clear st1 gr1 hcs hsd hsgg HOx HGx HMx HTx HWx HPAD
              go_wp2
              go_roundg (gn - (j + 1))
              case measure => omega
              case rel => exact ⟨j + 1, n4 + i, vc', some ⟨sg, 0, none⟩, (stepD (Nm, Mt) TN nm).1, (stepD (Nm, Mt) TN nm).2, by rfl, by omega, by go_num, HRUN2, HNL7.out.1, by omega, HNL7.out.2, HO7, HG7, HM7, HW7⟩

      · have hposI : ¬ (0 : Int) < (TN : Int) := by omega
        have HRUN2 : Hid (runD L ([NB0], List.replicate 21 false) = runD (L.drop (j + 1)) (stepD (Nm, Mt) TN nm)) := by
          unfold Hid; rw [HRUN.out, HRUN1.out, if_neg (fun h => hposI h.1)]
        clear HRUN1 HRUN hbd u2
        have hmt : Mt[TN]? = some bb := HBB.out
        have hmc : (Mt.map Value.bool).toArray[TN]? = some (.bool bb) := by rw [List.getElem?_toArray, List.getElem?_map, hmt]; rfl
        have m0 := HM1.out.cell TN hmc
        have mf := HM1.out.frozen TN
        have HM2 : Hid (Bk (w1.setCell ⟨mb, TN, none⟩ (.bool true)) mb ((Mt.set TN true).map Value.bool).toArray 4) := by
          unfold Hid
          have := HM1.out.set TN (.bool true)
          rw [List.setIfInBounds_toArray, ← List.map_set] at this
          exact this
        have HO2 : Hid ((w1.setCell ⟨mb, TN, none⟩ (.bool true)).ownsRow wa.heap.size 9 1 (.slice va n4 vc) n4 (Nm.map Value.string)) := HO1.out.kept (grown_set w1 mb _ _) (own_bk HO1.out HM1.out (by decide))
        have HG2 : Hid ((w1.setCell ⟨mb, TN, none⟩ (.bool true)).ownsRow wa.heap.size 25 8 (.slice (some ⟨gg, 0, none⟩) gn gc) gn xs) := HG1.out.kept (grown_set w1 mb _ _) (own_bk HG1.out HM1.out (by decide))
        have HT2 : Hid (Bk (w1.setCell ⟨mb, TN, none⟩ (.bool true)) tb #[.int .i64 gk0, .int .i64 gm0, .int .i64 (TN : Int), .int .i64 gb0, .bool gg0, .string nm, .slice gsa gsl gsc, .slice gao gnk gcap] 25) := HT1.out.apart (by omega) _
        have HW2 : Hid (Below wa.heap.size wa (w1.setCell ⟨mb, TN, none⟩ (.bool true))) := HW1.out.setCell (p := ⟨mb, TN, none⟩) hmb _
        have u2 := HT1.out.cell 2 (u := .int .i64 (TN : Int)) rfl
        have u5 := HT1.out.cell 5 (u := .string nm) rfl
        clear HM1 HO1 HG1 HT1 HW1 hmc hmt
        go_upto_region 6 with fail
        rw [HW1N.out, HTB.out]
        go_wp2
        go_loopg [4] (TN + 1 - n4) (fun gk2 v4 wx => ∃ (i n4' vc' : Nat) (va' : Option Addr), v4 = .slice va' n4' vc' ∧ i + gk2 = TN + 1 - n4 ∧ n4' = n4 + i ∧ Hid (wx.ownsRow wa.heap.size 9 1 (.slice va' n4' vc') n4' ((Nm ++ List.replicate i NB0).map Value.string)) ∧ Hid (wx.ownsRow wa.heap.size 25 8 (.slice (some ⟨gg, 0, none⟩) gn gc) gn xs) ∧ Hid (Bk wx mb ((Mt.set TN true).map Value.bool).toArray 4) ∧ Hid (Bk wx tb #[.int .i64 gk0, .int .i64 gm0, .int .i64 (TN : Int), .int .i64 gb0, .bool gg0, .string nm, .slice gsa gsl gsc, .slice gao gnk gcap] 25) ∧ Hid (Below wa.heap.size wa wx))
        case atStart => exact ⟨0, n4, vc, va, rfl, by omega, by omega, by unfold Hid; rw [List.replicate_zero, List.append_nil]; exact HO2.out, HG2, HM2, HT2, HW2⟩
        case round =>
          obtain ⟨i, n4', vc', va', rfl, hi4, rfl, HOx, HGx, HMx, HTx, HWx⟩ := hrel
          clear HO2 HG2 HM2 HT2 HW2 u2 u5
          have u2 := HTx.out.cell 2 (u := .int .i64 (TN : Int)) rfl
          have u5 := HTx.out.cell 5 (u := .string nm) rfl
          by_cases hin : n4 + i ≤ TN
          · have hinI : ((n4 + i : Nat) : Int) ≤ (TN : Int) := by omega
            have hs4 := HWx.out.size
            go_wp2_with (at_builtin; refine wpList_append_own_at _ rfl _ _ 32 rfl wa.heap.size 9 is (.string ⟨#[]⟩) 1 16 Tryz.underlying32 his hs0 hs1 hs2 rfl (by decide) _ _ _ rfl (HOx.out.alloc _) ⟨wr.heap.size, 0, none⟩ 1 1 [.string NB0] rfl rfl ?ca2 ?cb2 ?cc2 ?cd2 ?ce2 ?_)
            case ca2 => intro u x hx; rw [Addr.add_lit]; have := (Bk.new wr #[.string NB0] 9).cell u (u := x) (by simpa using hx); simpa using this
            case cb2 => intro u hu; simp at hu; subst hu; rfl
            case cc2 => unfold maxLen; omega
            case cd2 => omega
            case ce2 => simp; omega
            intro v'' w5 ho5 hg5 _ _
            obtain ⟨vb, vn, vcc, rfl⟩ := own_form ho5
            obtain rfl : vn = n4 + i + 1 := by
              rcases ho5.2 with ⟨e, h0⟩ | ⟨g1, c1, cu1, e, _⟩
              · omega
              · cases e; rfl
            have hob := (HOx.out.alloc (.cells #[.string NB0] 9))
            have HO6 : Hid (w5.ownsRow wa.heap.size 9 1 (.slice vb (n4 + (i + 1)) vcc) (n4 + (i + 1)) ((Nm ++ List.replicate (i + 1) NB0).map Value.string)) := by
              unfold Hid
              rw [hza, List.replicate_succ']
              simpa [List.append_assoc, Nat.add_assoc] using ho5
            have HG6 : Hid (w5.ownsRow wa.heap.size 25 8 (.slice (some ⟨gg, 0, none⟩) gn gc) gn xs) := (HGx.out.alloc _).kept hg5 (own_ne (HGx.out.alloc _) hob (by decide))
            have HM6 : Hid (Bk w5 mb ((Mt.set TN true).map Value.bool).toArray 4) := (hg5.block mb (HMx.out.past _).lt (fun e => by
              rcases own_bk hob (HMx.out.past _) (by decide) with e' | e'
              · rw [e'] at e; cases e
              · exact e' e.symm)).trans (HMx.out.past _)
            have HT6 : Hid (Bk w5 tb #[.int .i64 gk0, .int .i64 gm0, .int .i64 (TN : Int), .int .i64 gb0, .bool gg0, .string nm, .slice gsa gsl gsc, .slice gao gnk gcap] 25) := (hg5.block _ (HTx.out.past _).lt (fun e => by
              rcases own_bk hob (HTx.out.past _) (by decide) with e' | e'
              · rw [e'] at e; cases e
              · exact e' e.symm)).trans (HTx.out.past _)
            have HW6 : Hid (Below wa.heap.size wa w5) := (HWx.out.alloc hs4 _).grown hg5 (by simp; omega) (fun x e => (HOx.out.lt x e).1)
            clear ho5 hg5 hob u2 u5
            go_wp2
            go_roundg (gk - 1)
            case measure => omega
            case rel => exact ⟨i + 1, n4 + (i + 1), vcc, vb, by rfl, by omega, by omega, HO6, HG6, HM6, HT6, HW6⟩
          · have hinI : ¬ ((n4 + i : Nat) : Int) ≤ (TN : Int) := by omega
            have hrep : i = TN + 1 - n4 := by omega
            have HPAD : Hid (Nm ++ List.replicate i NB0 = padN Nm TN) := by unfold Hid padN; rw [hrep, HNM.out]
            have hpl : n4 + i ≤ 21 := by omega
            clear hrep
            have hsd : stepD (Nm, Mt) TN nm = (padN Nm TN, Mt.set TN true) := by unfold stepD; rw [if_neg (by omega)]
            have HO7 : Hid (wr.ownsRow wa.heap.size 9 1 (.slice va' (n4 + i) vc') (n4 + i) ((stepD (Nm, Mt) TN nm).1.map Value.string)) := by
              unfold Hid
              rw [hsd, ← HPAD.out]
              exact HOx.out
            have HM7 : Hid (Bk wr mb ((stepD (Nm, Mt) TN nm).2.map Value.bool).toArray 4) := by
              unfold Hid
              rw [hsd]; exact HMx.out
            have HNL7 : Hid ((stepD (Nm, Mt) TN nm).1.length = n4 + i ∧ (stepD (Nm, Mt) TN nm).2.length = 21) := by
              unfold Hid
              rw [hsd]
              simp only [List.length_set, HML.out, and_true]
              rw [← HPAD.out, List.length_append, HNM.out, List.length_replicate]
            clear hsd HOx HMx HTx HPAD
            go_wp2
            go_roundg (gn - (j + 1))
            case measure => omega
            case rel => exact ⟨j + 1, n4 + i, vc', va', (stepD (Nm, Mt) TN nm).1, (stepD (Nm, Mt) TN nm).2, by rfl, by omega, by go_num, HRUN2, HNL7.out.1, by omega, HNL7.out.2, HO7, HGx, HM7, HWx⟩

    · have HDN : Hid (runD L ([NB0], List.replicate 21 false) = some (Nm, Mt)) := by
        unfold Hid
        rw [HRUN.out, List.drop_of_length_le (by have := HLN.out; omega), runD]
      clear HRUN
      have hx := HXA.out.keep HW.out (by omega)
      have x0 := hx.cell 0 (u := .int .i64 k) rfl; have x1 := hx.cell 1 (u := .int .i64 m) rfl; have x2 := hx.cell 2 (u := .int .i64 a) rfl; have x3 := hx.cell 3 (u := .int .i64 b) rfl; have x4 := hx.cell 4 (u := .bool g) rfl; have x5 := hx.cell 5 (u := .string n) rfl; have x6 := hx.cell 6 (u := .slice sa sl sc) rfl; have x7 := hx.cell 7 (u := .slice ao nk cap) rfl
      have hws := HW.out.size
      have C2 := CN13 wr (HBA.out.trans (below_less HW.out (by omega)))
      have HGD2 : Hid (gd = if L2.all (fun k => decide (k.a < (Nm.length : Int))) then some Nm else none) := by unfold Hid; rw [HGD.out, HDN.out]
      clear hx HG HM CN13 HGD HDN
      go_wp2_with fail
      go_at_call 60
      refine C2.mono ?_
      clear C2 x0 x1 x2 x3 x4 x5 x6 x7
      rintro e w5 ⟨v2, ys, rfl, ho, hnr, hb⟩
      obtain ⟨ga2, gn2, gc2, rfl⟩ := own_form ho
      obtain rfl : gn2 = ln2 := by
        rcases ho.2 with ⟨e, h0⟩ | ⟨g1, c1, cu1, e, _⟩
        · cases e; exact h0.symm
        · cases e; rfl
      have HO5 : Hid (w5.ownsRow wa.heap.size 9 1 (.slice va n4 vc) n4 (Nm.map Value.string)) := rng.own_below' HO.out hb
      have HG5 : Hid (w5.ownsRow wr.heap.size 25 8 (.slice ga2 gn2 gc2) gn2 ys) := ho
      have HNR2 : Hid (NR L2 ys) := hnr
      have HW5 : Hid (Below wa.heap.size wa w5) := HW.out.trans (below_less hb hws)
      have hgc2 : gn2 ≤ gc2 ∧ gc2 ≤ 9223372036854775807 := by
        rcases ho.2 with ⟨e, h0⟩ | ⟨g1, c1, cu1, e, _, _, h1, h2, _⟩
        · cases e; exact ⟨by omega, by omega⟩
        · cases e; exact ⟨h1, by unfold maxLen at h2; omega⟩
      obtain ⟨hgc3, hgc4⟩ := hgc2
      obtain ⟨wb, hwb⟩ : ∃ wb, wr.heap.size = wb := ⟨_, rfl⟩
      have hwa : w.heap.size + 1 ≤ wb := by omega
      rw [hwb] at HG5
      have HA5 : Hid (∀ x ∈ L2.take 0, x.a < (n4 : Int)) := fun x hx => by simp at hx
      have hvc : n4 ≤ vc ∧ vc ≤ 9223372036854775807 := by
        rcases HO.out.2 with ⟨e, h0⟩ | ⟨g1, c1, cu1, e, _, _, h1, h2, _⟩
        · cases e; exact ⟨by omega, by omega⟩
        · cases e; exact ⟨h1, by unfold maxLen at h2; omega⟩
      clear ho hnr hb HO HW hws
      go_wp2
      go_loopw [54] (fun i wx => ∃ (u : Nat), u ≤ gn2 ∧ i = .int .i64 u ∧ Hid (∀ x ∈ L2.take u, x.a < (n4 : Int)) ∧ Hid (wx.ownsRow wa.heap.size 9 1 (.slice va n4 vc) n4 (Nm.map Value.string)) ∧ Hid (wx.ownsRow wb 25 8 (.slice ga2 gn2 gc2) gn2 ys) ∧ Hid (Below wa.heap.size wa wx)) (fun i _ => gn2 - (intOf i).toNat)
      case atStart => exact ⟨0, Nat.zero_le _, rfl, HA5, HO5, HG5, HW5⟩
      case round =>
        obtain ⟨u, hu, rfl, HAx, HOx, HGx, HWx⟩ := hrel
        clear HO5 HG5 HA5 HW5 hwb
        by_cases hlt2 : u < gn2
        · obtain ⟨tt, htt⟩ := getX HLN2.out hlt2
          obtain ⟨gk0, gm0, gb0, gg0, gsa, gsl, gsc, gao, gnk, gcap, q0, q1, q2, q3, q4, q5, q6, q7⟩ := HNR2.out.get u tt htt
          obtain ⟨gg, rfl⟩ : ∃ gg, ga2 = some ⟨gg, 0, none⟩ := by
            rcases HGx.out.2 with ⟨e, h0⟩ | ⟨g1, c1', cu1, e, _⟩
            · omega
            · cases e; exact ⟨g1, rfl⟩
          have r0 := HGx.out.cellAt (u * 8) (by omega)
          have r1 := HGx.out.cellAt (u * 8 + 1) (by omega)
          have r2 := HGx.out.cellAt (u * 8 + 2) (by omega)
          have r3 := HGx.out.cellAt (u * 8 + 3) (by omega)
          have r4 := HGx.out.cellAt (u * 8 + 4) (by omega)
          have r5 := HGx.out.cellAt (u * 8 + 5) (by omega)
          have r6 := HGx.out.cellAt (u * 8 + 6) (by omega)
          have r7 := HGx.out.cellAt (u * 8 + 7) (by omega)
          rw [q0] at r0; rw [q1] at r1; rw [q2] at r2; rw [q3] at r3; rw [q4] at r4; rw [q5] at r5; rw [q6] at r6; rw [q7] at r7
          have HMEM : Hid (tt ∈ L2) := List.mem_of_getElem? htt
          have HTK : Hid (L2.take (u + 1) = L2.take u ++ [tt]) := takeX htt
          obtain ⟨ta, hta⟩ : ∃ ta, tt.a = ta := ⟨_, rfl⟩
          have HTA : Hid (tt.a = ta) := hta
          obtain ⟨nm, hnm⟩ : ∃ nm, tt.name = nm := ⟨_, rfl⟩
          rw [hta] at r2
          rw [hnm] at r5
          clear q0 q1 q2 q3 q4 q5 q6 q7 htt hta hnm
          by_cases hge : (n4 : Int) ≤ ta
          · have HN : Hid (gd = none) := by
              unfold Hid
              rw [HGD2.out, if_neg]
              intro hall
              have := List.all_eq_true.1 hall tt HMEM.out
              simp only [decide_eq_true_eq, HTA.out, HNM.out] at this
              omega
            go_wp2
            go_ret2
            exact ⟨HBA.out.trans (below_less (HWx.out.alloc HWx.out.size _) (by omega)), .inl ⟨HN.out, rfl⟩⟩
          · have HA2 : Hid (∀ x ∈ L2.take (u + 1), x.a < (n4 : Int)) := fun x hx => by
              rw [HTK.out] at hx
              rcases List.mem_append.1 hx with h | h
              · exact HAx.out x h
              · simp at h; subst h; rw [HTA.out]; omega
            go_wp2
            go_roundw
            case rel => exact ⟨u + 1, by omega, by go_num, HA2, HOx.out.alloc _, HGx.out.alloc _, HWx.out.alloc HWx.out.size _⟩
            case measure => simp [intOf]; omega
        · have HS : Hid (gd = some Nm) := by
            unfold Hid
            rw [HGD2.out, if_pos]
            refine List.all_eq_true.2 fun x hx => ?_
            have := HAx.out x (by rw [List.take_of_length_le (by have := HLN2.out; omega)]; exact hx)
            simp only [decide_eq_true_eq, HNM.out]
            exact this
          clear HAx
          go_wp2
          go_ret2
          refine ⟨HBA.out.trans (below_less HWx.out (by omega)), .inr ⟨Nm, va, vc, HS.out, by rw [HNM.out]; exact h21, by rw [HNM.out] <;> rfl, ?_⟩⟩
          rw [HNM.out]
          exact own_less HOx.out (by omega)
end Go.Proofs.YtjbcapnpknbbaaaGreat.cmp
