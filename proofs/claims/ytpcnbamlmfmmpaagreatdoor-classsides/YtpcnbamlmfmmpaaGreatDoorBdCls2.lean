/- Texts that the proof leans on, one behind the other. -/
import Derived.Test.YtpcnbamlmfmmpaaGreatDoorBdCls1
import Derived.Deep.RegionHeld3
import Derived.Deep.RegionWith

section
/- widened: a leaf's set with what folding and canonical equivalence bring. -/
set_option linter.unusedVariables false
set_option linter.unusedSimpArgs false
namespace Go.Proofs.YtpcnbamlmfmmpaaGreatDoor.cls
open Go.RowKit
open Go.Proofs.YtpcnbamlmfmmpaaGreatDoor.rng (R has IsSet Sl code CanF RV)
open Go.Proofs.YtpcnbamlmfmmpaaGreatDoor.dcp (sinL fullL)
open Go.Proofs.YtpcnbamlmfmmpaaGreatDoor.nod

def sgl (c : Bool) : List Int := if c = true then sinL else []
theorem sgl_one (c : Bool) : ∀ r ∈ sgl c, (fullL r).length = 1 ∧ prp.okI r := by
  intro r hr
  cases c with
  | false => cases hr
  | true => have := dcp.sin_facts.2.2 r hr; exact ⟨this.1, by unfold prp.okI; omega⟩
theorem sgl_len (c : Bool) : (sgl c).length ≤ 1000 := by
  cases c with
  | false => decide
  | true => exact dcp.sin_facts.2.1
theorem addL_len (a : List R) : ∀ l : List Int, (∀ r ∈ l, (fullL r).length = 1) → (addL a l).length ≤ l.length
  | [], _ => by simp [addL]
  | r :: l, h => by
    have h1 := h r (by simp)
    have h2 := addL_len a l (fun x hx => h x (by simp [hx]))
    show ((if has a r = true then (fullL r).map (fun y => [(y, y)]) else []) ++ addL a l).length ≤ _
    rw [List.length_append, List.length_cons]
    split
    · rw [List.length_map, h1]; omega
    · simp; omega
theorem addL_each (a : List R) (l : List Int) : ∀ s ∈ addL a l, s.length ≤ 1 := by
  intro s hs
  obtain ⟨r, _, _, y, _, rfl⟩ := (mem_addL _ _ _).1 hs
  simp
def oneL (l : List Int) : List (List R) := l.map fun y => [(y, y)]
theorem wl_len (a : List R) (c : Bool) (k : Nat) (l : List Int) (hl : l.length ≤ 1) : ((a :: addL a ((sgl c).take k)) ++ oneL l).length ≤ 1002 := by
  have h := addL_len a ((sgl c).take k) (fun r hr => (sgl_one c r (List.mem_of_mem_take hr)).1)
  rw [List.length_take] at h
  have := sgl_len c
  unfold oneL
  rw [List.length_append, List.length_cons, List.length_map]
  omega
theorem wl_cat (a : List R) (c : Bool) (hl : a.length ≤ 1000000) : (cat (a :: addL a (sgl c))).length ≤ 200000000 := by
  have h := addL_len a (sgl c) (fun r hr => (sgl_one c r hr).1)
  have h2 := cat_len (ls := addL a (sgl c)) (k := 1) (addL_each a _)
  have := sgl_len c
  show (a ++ cat (addL a (sgl c))).length ≤ _
  rw [List.length_append]
  omega
set_option maxHeartbeats 4000000 in
set_option maxRecDepth 1000000 in
theorem widened_any (tb : Nat) (c d mu : Bool) (fo : Int) (sa : Option Addr) (sn sc : Nat) (A : Nat) (v : Value) (a : List R) (P : Int → Prop) (w : World) (hT : prp.Tabs w tb) (hE : prp.Env w) (hsn : (sgl c).length = sn) (hS : prp.IV w (.slice sa sn sc) (sgl c))
    (hA : A ≤ w.heap.size) (ho : rng.Own w A v a) (hP : ∀ x, code x = true → (has a x = true ↔ P x)) (hl : a.length ≤ 1000000) :
    Calls Tryz.prog 81 #[.agg #[.pointer (some ⟨tb, 0, none⟩), .bool c, .bool d, .bool mu, .int .i64 fo, .slice sa sn sc], v] w fun e w' => ∃ v' r, e = .returned v' ∧ rng.Own w' w.heap.size v' r ∧ IsP r (wideP c fo P) ∧ Below w.heap.size w w' := by
  obtain ⟨i0, hi, hz0, hz1, hz2⟩ := rng.info_parts infoSets
  have HT : Hid (prp.Tabs w tb) := hT
  have HE : Hid (prp.Env w) := hE
  have HS : Hid (prp.IV w (.slice sa sn sc) (sgl c)) := hS
  have HSN : Hid ((sgl c).length = sn) := hsn
  have HO : Hid (rng.Own w A v a) := ho
  have HP : Hid (∀ x, code x = true → (has a x = true ↔ P x)) := hP
  have HAL : Hid (a.length ≤ 1000000) := hl
  have hsn2 : sn ≤ 1000 := by rw [← hsn]; exact sgl_len c
  have bk := Bk.new w #[.pointer (some ⟨tb, 0, none⟩), .bool c, .bool d, .bool mu, .int .i64 fo, .slice sa sn sc] 94
  have B0 : Below w.heap.size w (w.alloc (.cells #[.pointer (some ⟨tb, 0, none⟩), .bool c, .bool d, .bool mu, .int .i64 fo, .slice sa sn sc] 94)) := (Below.refl _ w).alloc (Nat.le_refl _) _
  have so := SO.one (ho.below B0)
  have HBK : Hid (Bk ((w.alloc (.cells #[.pointer (some ⟨tb, 0, none⟩), .bool c, .bool d, .bool mu, .int .i64 fo, .slice sa sn sc] 94)).alloc (.cells #[v] 22)) w.heap.size #[.pointer (some ⟨tb, 0, none⟩), .bool c, .bool d, .bool mu, .int .i64 fo, .slice sa sn sc] 94) := bk.past _
  have HB0 : Hid (Below w.heap.size w ((w.alloc (.cells #[.pointer (some ⟨tb, 0, none⟩), .bool c, .bool d, .bool mu, .int .i64 fo, .slice sa sn sc] 94)).alloc (.cells #[v] 22))) := B0.alloc (by simp) _
  have HSO : Hid (SO ((w.alloc (.cells #[.pointer (some ⟨tb, 0, none⟩), .bool c, .bool d, .bool mu, .int .i64 fo, .slice sa sn sc] 94)).alloc (.cells #[v] 22)) w.heap.size A (.slice (some ⟨w.heap.size + 1, 0, none⟩) 1 1) [(v, a)]) := ⟨rng.own_mono (by simpa using so.row) (by simp), so.each⟩
  obtain ⟨va, vc, rfl⟩ := own_sl ho
  obtain ⟨an, han⟩ : ∃ n, a.length = n := ⟨_, rfl⟩
  rw [han] at HBK HB0 HSO HO ⊢
  have HAN : Hid (a.length = an) := han
  clear hT hE hS hsn ho hP hl bk B0 so han
  go_enter Tryz.func81, Tryz.ntmps81
  go_wp2
  generalize (w.alloc (.cells #[.pointer (some ⟨tb, 0, none⟩), .bool c, .bool d, .bool mu, .int .i64 fo, .slice sa sn sc] 94)).alloc (.cells #[.slice va an vc] 22) = W0 at *
  go_loopw [5, 16] (fun u i wr => ∃ (k : Nat) (L : List St2), k ≤ sn ∧ i = .int .i64 k ∧ Hid (SO wr w.heap.size A u L) ∧ Hid (L.map Prod.snd = a :: addL a ((sgl c).take k)) ∧ Hid (Bk wr w.heap.size #[.pointer (some ⟨tb, 0, none⟩), .bool c, .bool d, .bool mu, .int .i64 fo, .slice sa sn sc] 94) ∧ Hid (Below w.heap.size w wr)) (fun _ i _ => sn - (RowKit.intOf i).toNat)
  case atStart => exact ⟨0, _, Nat.zero_le _, rfl, HSO, rfl, HBK, HB0⟩
  case round =>
    clear HSO HBK HB0
    obtain ⟨k, L, hk, rfl, HSO, HLM, HBK, HW⟩ := hrel
    have hsz := HW.out.size
    by_cases hlt : k < sn
    · have hlt' : (k : Int) < (sn : Int) := by omega
      obtain ⟨sa', sc', e9, hcl⟩ := HS.out.below HW.out
      injection e9 with e1 e2 e3
      subst e1 e3
      obtain ⟨sb, so', hsa, hc2⟩ := hcl (by rw [HSN.out]; omega)
      subst hsa
      have hcell := hc2 k (by rw [HSN.out]; exact hlt)
      obtain ⟨r, hr⟩ := getX HSN.out hlt
      rw [List.getD_eq_getElem?_getD, hr, Option.getD_some] at hcell
      have hmem := List.mem_of_getElem? hr
      obtain ⟨hr1, hr2⟩ := sgl_one c r hmem
      have HF1 : Hid ((fullL r).length = 1) := hr1
      have HRO : Hid (prp.okI r) := hr2
      have HTK : Hid (addL a ((sgl c).take (k + 1)) = addL a ((sgl c).take k) ++ (if has a r = true then oneL (fullL r) else [])) := by show _ = _; rw [takeX hr, addL_snoc]; rfl
      obtain ⟨va', vc', e8, hrv, _, _⟩ := (HO.out.below HW.out).view
      rw [HAN.out] at e8
      injection e8 with e81 _ e83
      subst e81 e83
      have C := rng.has_any va vc a r wr (by have := HAL.out; omega) hrv
      rw [HAN.out] at C
      clear hc2 hcl hr hmem hr1 hr2 hrv e2
      obtain ⟨hb, hhb⟩ : ∃ x, has a r = x := ⟨_, rfl⟩
      rw [hhb] at C
      go_wp2_with fail
      refine C.mono ?_
      rintro e w1 ⟨rfl, b1⟩
      clear C
      have HW1 : Hid (Below w.heap.size w w1) := HW.out.trans (b1.mono HW.out.size)
      have HSO1 : Hid (SO w1 w.heap.size A u5 L) := HSO.out.below b1
      have HBK1 : Hid (Bk w1 w.heap.size #[.pointer (some ⟨tb, 0, none⟩), .bool c, .bool d, .bool mu, .int .i64 fo, .slice (some ⟨sb, so', none⟩) sn sc] 94) := HBK.out.on b1
      clear b1 HSO HBK HW hcell hsz
      cases hb with
      | false =>
        have HLM2 : Hid (L.map Prod.snd = a :: addL a ((sgl c).take (k + 1))) := by show _ = _; rw [HTK.out, hhb, if_neg (by decide), List.append_nil]; exact HLM.out
        clear hhb HTK HLM
        go_wp2
        go_roundw
        case rel => exact ⟨k + 1, L, by omega, by go_num, HSO1, HLM2, HBK1, HW1⟩
        case measure => simp [RowKit.intOf]; omega
      | true =>
        have HTK2 : Hid (addL a ((sgl c).take (k + 1)) = addL a ((sgl c).take k) ++ oneL (fullL r)) := by show _ = _; rw [HTK.out, hhb, if_pos rfl]
        clear hhb HTK
        have x0 := HBK1.out.cell 0 (u := .pointer (some ⟨tb, 0, none⟩)) rfl
        have C := dcp.full_t tb r w1 (HT.out.below HW1.out) HRO.out
        go_wp2_with fail
        refine C.mono ?_
        rintro e w2 ⟨fv, rfl, of, b2⟩
        clear C x0
        have HW2 : Hid (Below w.heap.size w w2) := HW1.out.trans (b2.mono HW1.out.size)
        have HSO2 : Hid (SO w2 w.heap.size A u5 L) := HSO1.out.below b2
        have HBK2 : Hid (Bk w2 w.heap.size #[.pointer (some ⟨tb, 0, none⟩), .bool c, .bool d, .bool mu, .int .i64 fo, .slice (some ⟨sb, so', none⟩) sn sc] 94) := HBK1.out.on b2
        have HFV : Hid (prp.IOwn w2 w.heap.size fv (fullL r)) := rng.own_mono of HW1.out.size
        obtain ⟨fa, fc, hfv⟩ := lin.own_slice of
        subst hfv
        rw [HF1.out] at HFV ⊢
        clear of b2 HSO1 HBK1 HW1
        have HW2' : Hid (Below w2.heap.size w2 w2) := Below.refl _ _
        go_wp2
        go_loopw [5, 29] (fun u i wz => ∃ (j : Nat) (M : List St2), j ≤ 1 ∧ i = .int .i64 j ∧ Hid (SO wz w.heap.size A u M) ∧ Hid (M.map Prod.snd = (a :: addL a ((sgl c).take k)) ++ oneL ((fullL r).take j)) ∧ Hid (Bk wz w.heap.size #[.pointer (some ⟨tb, 0, none⟩), .bool c, .bool d, .bool mu, .int .i64 fo, .slice (some ⟨sb, so', none⟩) sn sc] 94) ∧ Hid (prp.IOwn wz w.heap.size (.slice fa 1 fc) (fullL r)) ∧ Hid (Below w.heap.size w wz)) (fun _ i _ => 1 - (RowKit.intOf i).toNat)
        case atStart => exact ⟨0, L, Nat.zero_le _, rfl, HSO2, by show _ = _; rw [HLM.out]; simp [oneL], HBK2, HFV, HW2⟩
        case round =>
          clear HSO2 HBK2 HFV HW2 HW2' HLM
          obtain ⟨j, M, hj, rfl, HSO, HMM, HBK, HFV, HW⟩ := hrel
          have hml : M.length ≤ 1002 := by
            have h1 := wl_len a c k ((fullL r).take j) (by rw [List.length_take, HF1.out]; omega)
            rw [← HMM.out, List.length_map] at h1
            exact h1
          by_cases hjt : j < 1
          · obtain rfl : j = 0 := by omega
            obtain ⟨fa', fc', e9, hcl⟩ := HFV.out.iv
            injection e9 with e1 e2 e3
            subst e1 e3
            obtain ⟨fb, fo', hfa, hc2⟩ := hcl (by rw [HF1.out]; decide)
            subst hfa
            have hcell := hc2 0 (by rw [HF1.out]; decide)
            have HO1 : Hid (∃ y, fullL r = [y]) := List.length_eq_one_iff.1 HF1.out
            obtain ⟨y, hy⟩ := HO1.out
            rw [hy] at hcell
            simp only [List.getD_cons_zero, Nat.add_zero] at hcell
            have HY : Hid (fullL r = [y]) := hy
            have C := span_o y y wr
            clear hc2 hcl HO1 hy e2
            go_wp2_with fail
            refine C.mono ?_
            rintro e x1 ⟨sv, rfl, os, bs⟩
            clear C
            have HX : Hid (rng.Own x1 A sv [(y, y)]) := own_mn os (by have := HW.out.size; omega)
            have HWx : Hid (Below w.heap.size w x1) := HW.out.trans (bs.mono HW.out.size)
            have HSOx : Hid (SO x1 w.heap.size A u5 M) := HSO.out.below bs
            have HBKx : Hid (Bk x1 w.heap.size #[.pointer (some ⟨tb, 0, none⟩), .bool c, .bool d, .bool mu, .int .i64 fo, .slice (some ⟨sb, so', none⟩) sn sc] 94) := HBK.out.on bs
            have HFVx : Hid (prp.IOwn x1 w.heap.size (.slice (some ⟨fb, fo', none⟩) 1 fc) (fullL r)) := rng.own_below' HFV.out bs
            obtain ⟨ya, yc, hsv⟩ := own_sl os
            subst hsv
            clear os bs HSO HBK HFV HW hcell
            have hsx := HWx.out.size
            go_wp2_with (at_builtin; refine wpList_append_own _ rfl _ _ 167 rfl w.heap.size 22 i0 (.slice none 0 0) 1 24 Tryz.underlying167 hi hz0 hz1 hz2 rfl (by decide) _ M.length _ rfl (HSOx.out.row.alloc _) ⟨x1.heap.size, 0, none⟩ 1 1 [.slice ya 1 yc] rfl rfl (one_set x1 _) (one_cell ya 1 yc) ?c3 ?c4 ?c5 ?_)
            case c3 => unfold maxLen; omega
            case c4 => omega
            case c5 => first | omega | (simp; omega)
            intro v' w9 hown9 hgrow _
            have R1 : Hid (SO w9 w.heap.size A v' (M ++ [(.slice ya 1 yc, [(y, y)])])) := (HSOx.out.alloc _).snoc _ _ hown9 hgrow (HX.out.below ((Below.refl _ _).alloc (Nat.le_refl _) _))
            have R2 : Hid (Below w.heap.size w w9) := Below.grown (HWx.out.alloc hsx _) hgrow (by simp; omega) (fun k e => (HSOx.out.row.lt k e).1)
            have R3 : Hid ((M ++ [((.slice ya 1 yc : Value), [(y, y)])]).map Prod.snd = (a :: addL a ((sgl c).take k)) ++ oneL ((fullL r).take 1)) := by
              show _ = _
              rw [List.map_append, HMM.out, HY.out]
              simp [oneL]
            have hne : u5.ownBlock ≠ some w.heap.size := fld.row_ne HSOx.out.row HBKx.out (by decide)
            have R4 : Hid (Bk w9 w.heap.size #[.pointer (some ⟨tb, 0, none⟩), .bool c, .bool d, .bool mu, .int .i64 fo, .slice (some ⟨sb, so', none⟩) sn sc] 94) := fld.grow_block hgrow HBKx.out hne
            have R5 : Hid (prp.IOwn w9 w.heap.size (.slice (some ⟨fb, fo', none⟩) 1 fc) (fullL r)) := World.ownsRow.kept (World.ownsRow.alloc HFVx.out _) hgrow (rng.own_apart (World.ownsRow.alloc HFVx.out (.cells #[.slice ya 1 yc] 22)) (HSOx.out.row.alloc _) (by decide))
            clear hown9 hgrow HSOx HBKx HFVx HWx HX HMM HY hml hne
            go_wp2
            go_roundw
            case rel => exact ⟨1, _, by omega, by go_num, R1, R3, R4, R5, R2⟩
            case measure => simp [RowKit.intOf]
          · obtain rfl : j = 1 := by omega
            have HM3 : Hid (M.map Prod.snd = a :: addL a ((sgl c).take (k + 1))) := by
              have h9 := HMM.out
              have e1 : (fullL r).take 1 = fullL r := List.take_of_length_le (by rw [HF1.out]; exact Nat.le_refl _)
              rw [e1] at h9
              show _ = _
              rw [h9, HTK2.out]; simp
            clear HMM HFV
            go_wp2
            go_roundw
            case rel => exact ⟨k + 1, M, by omega, by go_num, HSO, HM3, HBK, HW⟩
            case measure => simp [RowKit.intOf]; omega
    · obtain rfl : k = sn := by omega
      have hlt' : ¬ (k : Int) < (k : Int) := by omega
      have HLA : Hid (L.map Prod.snd = a :: addL a (sgl c)) := by
        have h9 := HLM.out
        rw [List.take_of_length_le (by rw [HSN.out]; exact Nat.le_refl _)] at h9
        exact h9
      have hll : L.length ≤ 100000 := by
        have h1 := wl_len a c k [] (by decide)
        rw [List.take_of_length_le (by rw [HSN.out]; exact Nat.le_refl _), ← HLA.out, List.length_append, List.length_map] at h1
        omega
      have hcc : (catL L).length ≤ 200000000 := by unfold catL; rw [HLA.out]; exact wl_cat a c HAL.out
      have C := join_any w.heap.size A u5 L wr HSO.out hll hcc
      have HCL : Hid (catL L = cat (a :: addL a (if c = true then sinL else []))) := by show _ = _; unfold catL; rw [HLA.out]; rfl
      obtain ⟨ua, uc, hu⟩ := lin.own_slice HSO.out.row
      subst hu
      clear HLM HLA hll hcc HSO
      generalize L.length = Ln at *
      go_wp2_with fail
      refine C.mono ?_
      rintro e w1 ⟨v1, r, rfl, o1, hr, b1⟩
      clear C
      have HW1 : Hid (Below w.heap.size w w1) := HW.out.trans (b1.mono HW.out.size)
      have HBK1 : Hid (Bk w1 w.heap.size #[.pointer (some ⟨tb, 0, none⟩), .bool c, .bool d, .bool mu, .int .i64 fo, .slice sa k sc] 94) := HBK.out.on b1
      rw [HCL.out] at hr
      have HR : Hid (IsSet r (has (cat (a :: addL a (if c = true then sinL else []))))) := hr
      have HO1 : Hid (rng.Own w1 w.heap.size v1 r) := own_mn o1 HW.out.size
      have HSL : Hid (Sl w1 v1 r) := o1.sl
      have hrl : r.length ≤ 557056 := rng.can_len hr.1
      obtain ⟨ra, rc, hv1⟩ := own_sl o1
      subst hv1
      have x0 := HBK1.out.cell 0 (u := .pointer (some ⟨tb, 0, none⟩)) rfl
      have x4 := HBK1.out.cell 4 (u := .int .i64 fo) rfl
      clear o1 hr b1 HBK HW HCL
      by_cases hf : fo = 0
      · subst hf
        have HFIN : Hid (IsP r (wideP c 0 P)) := wide_plain HP.out HR.out
        clear HR HP
        generalize r.length = rn at *
        go_wp2
        go_ret
        exact ⟨_, r, rfl, HO1.out, HFIN.out, HW1.out⟩
      · have hf2 : (fo == 0) = false := by rw [beq_eq_false_iff_ne]; exact hf
        have C := fld.closure_o tb (.slice ra r.length rc) r w1 (HT.out.below HW1.out) (HE.out.below HW1.out) HSL.out (by omega)
        have HF : Hid (¬ fo = 0) := hf
        clear hf
        generalize r.length = rn at *
        go_wp2_with fail
        refine C.mono ?_
        rintro e w2 ⟨v2, s, rfl, o2, hs, b2⟩
        clear C
        have HFIN : Hid (IsP s (wideP c fo P)) := wide_clo HF.out HP.out HR.out hs
        have HO2 : Hid (rng.Own w2 w.heap.size v2 s) := own_mn o2 HW1.out.size
        have HW2 : Hid (Below w.heap.size w w2) := HW1.out.trans (b2.mono HW1.out.size)
        obtain ⟨ya, yc, hv2⟩ := own_sl o2
        subst hv2
        clear o2 hs b2 HR HP
        generalize s.length = zn at *
        go_wp2
        go_ret
        exact ⟨_, s, rfl, HO2.out, HFIN.out, HW2.out⟩
end Go.Proofs.YtpcnbamlmfmmpaaGreatDoor.cls
end

section
/- property: the set of a property, or the error. -/
set_option linter.unusedVariables false
set_option linter.unusedSimpArgs false
namespace Go.Proofs.YtpcnbamlmfmmpaaGreatDoor.cls
open Go.RowKit
open Go.Proofs.YtpcnbamlmfmmpaaGreatDoor.rng (R has IsSet Sl code CanF RV)
open Go.Proofs.YtpcnbamlmfmmpaaGreatDoor.dcp (sinL fullL)
open Go.Proofs.YtpcnbamlmfmmpaaGreatDoor.nod

theorem tl_ne {X Y : ByteArray} (h : X ≠ Y) : ¬ X.toList = Y.toList := fun e => h (by obtain ⟨⟨x⟩⟩ := X; obtain ⟨⟨y⟩⟩ := Y; simpa using e)
set_option maxHeartbeats 1000000 in
theorem expr_any (n : ByteArray) (w : World) : Calls Tryz.prog 120 #[.string n] w fun e w' => e = .returned (.slice (some ⟨w.heap.size, 0, none⟩) (exprs n).length (exprs n).length) ∧ w' = w.alloc (.cells ((exprs n).map Value.string).toArray 9) := by
  by_cases h1 : n = ⟨#[100]⟩
  · subst h1
    go_enter Tryz.func120, Tryz.ntmps120
    go_wp2
    go_ret
    exact ⟨rfl, rfl⟩
  by_cases h2 : n = ⟨#[119]⟩
  · subst h2
    go_enter Tryz.func120, Tryz.ntmps120
    go_wp2
    go_ret
    exact ⟨rfl, rfl⟩
  by_cases h3 : n = ⟨#[115]⟩
  · subst h3
    go_enter Tryz.func120, Tryz.ntmps120
    go_wp2
    go_ret
    exact ⟨rfl, rfl⟩
  have e : exprs n = [n] := by unfold exprs; rw [if_neg h1, if_neg h2, if_neg h3]
  rw [e]
  have q1 : ¬ n.toList = [100] := by have := tl_ne h1; simpa using this
  have q2 : ¬ n.toList = [119] := by have := tl_ne h2; simpa using this
  have q3 : ¬ n.toList = [115] := by have := tl_ne h3; simpa using this
  have r1 : (n.toList == [100]) = false := by simpa using q1
  have r2 : (n.toList == [119]) = false := by simpa using q2
  have r3 : (n.toList == [115]) = false := by simpa using q3
  clear h1 h2 h3 e
  go_enter Tryz.func120, Tryz.ntmps120
  go_wp2
  go_ret
  exact ⟨rfl, rfl⟩
theorem exprs_len (n : ByteArray) : (exprs n).length ≤ 5 := by
  unfold exprs
  (repeat' split) <;> simp
theorem exprs_size (n : ByteArray) (h : n.size ≤ 140737488355327) : ∀ s ∈ exprs n, s.size ≤ 140737488355327 := by
  intro s hs
  unfold exprs at hs
  (repeat' split at hs) <;> simp at hs <;> (repeat' (rcases hs with rfl | hs)) <;> first | exact h | decide | (subst hs; first | exact h | decide)
theorem firstE_at {α : Type} (f : α → Int) : ∀ (l : List α) (k : Nat) (s : α), l[k]? = some s → (∀ x ∈ l.take k, f x = 0) → ¬ f s = 0 → firstE (l.map f) = f s
  | [], k, s, h, _, _ => by simp at h
  | x :: l, 0, s, h, _, hs => by simp at h; subst h; exact firstE_cons hs
  | x :: l, k + 1, s, h, h0, hs => by
    rw [List.map_cons, firstE_cons0 (h0 x (by simp))]
    exact firstE_at f l k s (by simpa using h) (fun y hy => h0 y (by simp [hy])) hs
theorem firstE_none {α : Type} (f : α → Int) (l : List α) (h : ∀ x ∈ l, f x = 0) : firstE (l.map f) = 0 := firstE_zero _ (fun e he => by obtain ⟨x, hx, rfl⟩ := List.mem_map.1 he; exact h x hx)
def PropOk (L : List St2) (es : List ByteArray) : Prop := (∀ x, code x = true → (has (catL L) x = true ↔ ∃ s ∈ es, prp.setP (nam.resolveV s) x = true)) ∧ (∀ q ∈ L, q.2.length ≤ 557056) ∧ ∀ s ∈ es, (nam.resolveV s).2.2 = 0
theorem PropOk.nil : PropOk [] [] := ⟨fun x _ => by simp [catL, cat, has], fun q h => (by cases h), fun s h => (by cases h)⟩
theorem PropOk.snoc {L : List St2} {es : List ByteArray} (h : PropOk L es) {s : ByteArray} {v : Value} {r : List R} (h0 : (nam.resolveV s).2.2 = 0) (hr : IsSet r (prp.setP (nam.resolveV s))) : PropOk (L ++ [(v, r)]) (es ++ [s]) := by
  refine ⟨fun x hx => ?_, fun q hq => ?_, fun y hy => ?_⟩
  · rw [catL_snoc, rng.has_append, Bool.or_eq_true, h.1 x hx, hr.2 x hx]
    constructor
    · rintro (⟨y, hy, e⟩ | e)
      · exact ⟨y, by simp [hy], e⟩
      · exact ⟨s, by simp, e⟩
    · rintro ⟨y, hy, e⟩
      rcases List.mem_append.1 hy with hy | hy
      · exact .inl ⟨y, hy, e⟩
      · obtain rfl := List.mem_singleton.1 hy
        exact .inr e
  · rcases List.mem_append.1 hq with hq | hq
    · exact h.2.1 q hq
    · obtain rfl := List.mem_singleton.1 hq
      exact rng.can_len hr.1
  · rcases List.mem_append.1 hy with hy | hy
    · exact h.2.2 y hy
    · obtain rfl := List.mem_singleton.1 hy
      exact h0
theorem catL_len {L : List St2} {k : Nat} (h : ∀ q ∈ L, q.2.length ≤ 557056) (hk : L.length ≤ k) : (catL L).length ≤ k * 557056 := by
  have := cat_len (ls := L.map Prod.snd) (k := 557056) (fun l hl => by obtain ⟨q, hq, rfl⟩ := List.mem_map.1 hl; exact h q hq)
  rw [List.length_map] at this
  unfold catL
  exact Nat.le_trans this (Nat.mul_le_mul_right _ hk)
theorem cells7 {W : World} {g h : Nat} {T T' : TypeId} {p0 p1 p2 p3 p4 p5 k0 k1 k2 k3 k4 k5 k6 k7 : Value} (BK : Bk W g #[p0, p1, p2, p3, p4, p5] T) (BN : Bk W h #[k0, k1, k2, k3, k4, k5, k6, k7] T') (i : Nat) (u : Value) (hu : #[k0, k1, k2, k3, k4, k5, k6, k7][i]? = some u) :
    W.cell? ⟨g, 0, none⟩ = some p0 ∧ W.cell? ⟨g, 1, none⟩ = some p1 ∧ W.cell? ⟨g, 2, none⟩ = some p2 ∧ W.cell? ⟨g, 3, none⟩ = some p3 ∧ W.cell? ⟨g, 4, none⟩ = some p4 ∧ W.cell? ⟨g, 5, none⟩ = some p5 ∧ W.cell? ⟨h, i, none⟩ = some u :=
  ⟨BK.cell 0 rfl, BK.cell 1 rfl, BK.cell 2 rfl, BK.cell 3 rfl, BK.cell 4 rfl, BK.cell 5 rfl, BN.cell i hu⟩
set_option maxHeartbeats 4000000 in
set_option maxRecDepth 1000000 in
theorem property_any (tb : Nat) (c d mu : Bool) (fo : Int) (sa : Option Addr) (sn sc : Nat) (k m a b : Int) (g : Bool) (n : ByteArray) (ta : Option Addr) (tl tc : Nat) (ka : Option Addr) (kl kc : Nat) (w : World) (hT : prp.Tabs w tb) (hE : prp.Env w) (hsn : (sgl c).length = sn) (hS : prp.IV w (.slice sa sn sc) (sgl c)) (hn : n.size ≤ 140737488355327) :
    Calls Tryz.prog 83 #[.agg #[.pointer (some ⟨tb, 0, none⟩), .bool c, .bool d, .bool mu, .int .i64 fo, .slice sa sn sc], .agg #[.int .i64 k, .int .i64 m, .int .i64 a, .int .i64 b, .bool g, .string n, .slice ta tl tc, .slice ka kl kc]] w fun e w' =>
      ∃ v' r, e = .returned (.tuple #[v', .int .i64 (propE n)]) ∧ rng.Own w' w.heap.size v' r ∧ (propE n = 0 → IsP r (negP g (wideP c fo (propP n)))) ∧ (¬ propE n = 0 → r = []) ∧ Below w.heap.size w w' := by
  obtain ⟨i0, hi, hz0, hz1, hz2⟩ := rng.info_parts infoSets
  have HT : Hid (prp.Tabs w tb) := hT
  have HE : Hid (prp.Env w) := hE
  have HS : Hid (prp.IV w (.slice sa sn sc) (sgl c)) := hS
  have HSN : Hid ((sgl c).length = sn) := hsn
  have HES : Hid (∀ s ∈ exprs n, s.size ≤ 140737488355327) := exprs_size n hn
  have C := expr_any n ((w.alloc (.cells #[.pointer (some ⟨tb, 0, none⟩), .bool c, .bool d, .bool mu, .int .i64 fo, .slice sa sn sc] 94)).alloc (.cells #[.int .i64 k, .int .i64 m, .int .i64 a, .int .i64 b, .bool g, .string n, .slice ta tl tc, .slice ka kl kc] 37))
  have hK5 := exprs_len n
  have HPE : Hid (propE n = firstE ((exprs n).map fun s => (nam.resolveV s).2.2)) := rfl
  have HPP : Hid (∀ x, propP n x ↔ ∃ s ∈ exprs n, prp.setP (nam.resolveV s) x = true) := fun x => Iff.rfl
  generalize exprs n = es at *
  obtain ⟨pe, hpe⟩ : ∃ x, propE n = x := ⟨_, rfl⟩
  rw [hpe] at HPE ⊢
  obtain ⟨K, hK⟩ : ∃ x, es.length = x := ⟨_, rfl⟩
  have HK : Hid (es.length = K) := hK
  rw [hK] at C hK5
  have bk := (Bk.new w #[.pointer (some ⟨tb, 0, none⟩), .bool c, .bool d, .bool mu, .int .i64 fo, .slice sa sn sc] 94).past (.cells #[.int .i64 k, .int .i64 m, .int .i64 a, .int .i64 b, .bool g, .string n, .slice ta tl tc, .slice ka kl kc] 37)
  have bn := Bk.new (w.alloc (.cells #[.pointer (some ⟨tb, 0, none⟩), .bool c, .bool d, .bool mu, .int .i64 fo, .slice sa sn sc] 94)) #[.int .i64 k, .int .i64 m, .int .i64 a, .int .i64 b, .bool g, .string n, .slice ta tl tc, .slice ka kl kc] 37
  have B0 : Below w.heap.size w ((w.alloc (.cells #[.pointer (some ⟨tb, 0, none⟩), .bool c, .bool d, .bool mu, .int .i64 fo, .slice sa sn sc] 94)).alloc (.cells #[.int .i64 k, .int .i64 m, .int .i64 a, .int .i64 b, .bool g, .string n, .slice ta tl tc, .slice ka kl kc] 37)) := ((Below.refl _ w).alloc (Nat.le_refl _) _).alloc (by simp) _
  rw [World.size_alloc] at bn
  have HBK : Hid (Bk _ w.heap.size #[.pointer (some ⟨tb, 0, none⟩), .bool c, .bool d, .bool mu, .int .i64 fo, .slice sa sn sc] 94) := bk
  have HBN : Hid (Bk _ (w.heap.size + 1) #[.int .i64 k, .int .i64 m, .int .i64 a, .int .i64 b, .bool g, .string n, .slice ta tl tc, .slice ka kl kc] 37) := bn
  have HB0 : Hid (Below w.heap.size w _) := B0
  clear hT hE hS hsn hn bk bn B0 hpe hK
  go_enter Tryz.func83, Tryz.ntmps83
  go_wp2_with fail
  refine C.mono ?_
  rintro e w1 ⟨rfl, hw1⟩
  clear C
  generalize (w.alloc (.cells #[.pointer (some ⟨tb, 0, none⟩), .bool c, .bool d, .bool mu, .int .i64 fo, .slice sa sn sc] 94)).alloc (.cells #[.int .i64 k, .int .i64 m, .int .i64 a, .int .i64 b, .bool g, .string n, .slice ta tl tc, .slice ka kl kc] 37) = W0 at *
  have HX : Hid (Bk w1 W0.heap.size (es.map Value.string).toArray 9) := by show Bk _ _ _ _; rw [hw1]; exact Bk.new W0 _ _
  have bw : Below W0.heap.size W0 w1 := by rw [hw1]; exact (Below.refl _ W0).alloc (Nat.le_refl _) _
  have HBK1 : Hid (Bk w1 w.heap.size #[.pointer (some ⟨tb, 0, none⟩), .bool c, .bool d, .bool mu, .int .i64 fo, .slice sa sn sc] 94) := HBK.out.on bw
  have HBN1 : Hid (Bk w1 (w.heap.size + 1) #[.int .i64 k, .int .i64 m, .int .i64 a, .int .i64 b, .bool g, .string n, .slice ta tl tc, .slice ka kl kc] 37) := HBN.out.on bw
  have HB1 : Hid (Below w.heap.size w w1) := HB0.out.trans (bw.mono HB0.out.size)
  generalize W0.heap.size = eb at *
  clear hw1 bw HBK HBN HB0
  go_wp2
  go_loopw [6, 15] (fun u i wr => ∃ (j : Nat) (L : List St2), j ≤ K ∧ i = .int .i64 j ∧ Hid (L.length = j) ∧ Hid (SO wr w.heap.size w.heap.size u L) ∧ Hid (PropOk L (es.take j)) ∧ Hid (Bk wr w.heap.size #[.pointer (some ⟨tb, 0, none⟩), .bool c, .bool d, .bool mu, .int .i64 fo, .slice sa sn sc] 94) ∧ Hid (Bk wr (w.heap.size + 1) #[.int .i64 k, .int .i64 m, .int .i64 a, .int .i64 b, .bool g, .string n, .slice ta tl tc, .slice ka kl kc] 37) ∧ Hid (Bk wr eb (es.map Value.string).toArray 9) ∧ Hid (Below w.heap.size w wr)) (fun _ i _ => K - (RowKit.intOf i).toNat)
  case atStart => exact ⟨0, [], Nat.zero_le _, rfl, rfl, SO.nil _ _ _, PropOk.nil, HBK1, HBN1, HX, HB1⟩
  case round =>
    clear HBK1 HBN1 HX HB1
    obtain ⟨j, L, hj, rfl, HLJ, HSO, HOK, HBK, HBN, HX, HW⟩ := hrel
    have hlj : L.length ≤ K := by rw [HLJ.out]; exact hj
    by_cases hlt : j < K
    · have hlt' : (j : Int) < (K : Int) := by omega
      obtain ⟨s, hs⟩ := getX HK.out hlt
      have xe := HX.out.cell j (u := .string s) (by simp [hs])
      have x0 := HBK.out.cell 0 (u := .pointer (some ⟨tb, 0, none⟩)) rfl
      have C := prp.set_t tb s wr (HT.out.below HW.out) (HES.out s (List.mem_of_getElem? hs))
      have HTK : Hid (es.take (j + 1) = es.take j ++ [s]) := takeX hs
      have HEZ : Hid (¬ (nam.resolveV s).2.2 = 0 → pe = (nam.resolveV s).2.2) := fun h => by rw [HPE.out]; exact firstE_at (fun s => (nam.resolveV s).2.2) es j s hs (fun x hx => HOK.out.2.2 x hx) h
      clear hs
      have HRS : Hid (∀ r v, (nam.resolveV s).2.2 = 0 → IsSet r (prp.setP (nam.resolveV s)) → PropOk (L ++ [(v, r)]) (es.take (j + 1))) := fun r v h0 hr => by rw [HTK.out]; exact HOK.out.snoc h0 hr
      generalize nam.resolveV s = rs at *
      obtain ⟨rk, rv, re⟩ := rs
      simp only at C HEZ HRS
      go_wp2_with fail
      refine C.mono ?_
      rintro e w2 ⟨v2, r, rfl, o2, hr, b2⟩
      clear C x0 xe
      have HR : Hid (IsSet r (prp.setP (rk, rv, re))) := hr
      have HO2 : Hid (rng.Own w2 w.heap.size v2 r) := own_mn o2 HW.out.size
      have HW2 : Hid (Below w.heap.size w w2) := HW.out.trans (b2.mono HW.out.size)
      obtain ⟨ya, yc, hv2⟩ := own_sl o2
      subst hv2
      by_cases hre : re = 0
      · subst hre
        have HOK2 : Hid (PropOk (L ++ [(.slice ya r.length yc, r)]) (es.take (j + 1))) := HRS.out r _ rfl HR.out
        have HSO2 : Hid (SO w2 w.heap.size w.heap.size u6 L) := HSO.out.below b2
        have HBK2 : Hid (Bk w2 w.heap.size #[.pointer (some ⟨tb, 0, none⟩), .bool c, .bool d, .bool mu, .int .i64 fo, .slice sa sn sc] 94) := HBK.out.on b2
        have HBN2 : Hid (Bk w2 (w.heap.size + 1) #[.int .i64 k, .int .i64 m, .int .i64 a, .int .i64 b, .bool g, .string n, .slice ta tl tc, .slice ka kl kc] 37) := HBN.out.on b2
        have HX2 : Hid (Bk w2 eb (es.map Value.string).toArray 9) := HX.out.on b2
        clear hr o2 b2 HSO HBK HBN HX HW HEZ HRS HR HOK HTK
        have hsx := HW2.out.size
        generalize r.length = rn at *
        go_wp2_with (at_builtin; refine wpList_append_own _ rfl _ _ 167 rfl w.heap.size 22 i0 (.slice none 0 0) 1 24 Tryz.underlying167 hi hz0 hz1 hz2 rfl (by decide) _ L.length _ rfl (HSO2.out.row.alloc _) ⟨w2.heap.size, 0, none⟩ 1 1 [.slice ya rn yc] rfl rfl (one_set w2 _) (one_cell ya rn yc) ?c3 ?c4 ?c5 ?_)
        case c3 => unfold maxLen; omega
        case c4 => omega
        case c5 => first | omega | (simp; omega)
        intro v' w9 hown9 hgrow _
        have R1 : Hid (SO w9 w.heap.size w.heap.size v' (L ++ [(.slice ya rn yc, r)])) := (HSO2.out.alloc _).snoc _ _ hown9 hgrow (HO2.out.below ((Below.refl _ _).alloc (Nat.le_refl _) _))
        have R2 : Hid (Below w.heap.size w w9) := Below.grown (HW2.out.alloc hsx _) hgrow (by simp; omega) (fun k e => (HSO2.out.row.lt k e).1)
        have R3 : Hid ((L ++ [((.slice ya rn yc : Value), r)]).length = j + 1) := by show _ = _; rw [List.length_append, HLJ.out]; rfl
        have R4 : Hid (Bk w9 w.heap.size #[.pointer (some ⟨tb, 0, none⟩), .bool c, .bool d, .bool mu, .int .i64 fo, .slice sa sn sc] 94) := fld.grow_block hgrow HBK2.out (fld.row_ne HSO2.out.row HBK2.out (by decide))
        have R5 : Hid (Bk w9 (w.heap.size + 1) #[.int .i64 k, .int .i64 m, .int .i64 a, .int .i64 b, .bool g, .string n, .slice ta tl tc, .slice ka kl kc] 37) := fld.grow_block hgrow HBN2.out (fld.row_ne HSO2.out.row HBN2.out (by decide))
        have R6 : Hid (Bk w9 eb (es.map Value.string).toArray 9) := fld.grow_block hgrow HX2.out (fld.row_ne HSO2.out.row HX2.out (by decide))
        clear hown9 hgrow HSO2 HBK2 HBN2 HX2 HW2 HO2 hlj
        go_wp2
        go_roundw
        case rel => exact ⟨j + 1, _, by omega, by go_num, R3, R1, HOK2, R4, R5, R6, R2⟩
        case measure => simp [RowKit.intOf]; omega
      · have hre2 : (re == 0) = false := by rw [beq_eq_false_iff_ne]; exact hre
        have HP9 : Hid (pe = re) := HEZ.out hre
        have HRE : Hid (¬ re = 0) := hre
        have hre3 : (re != 0) = true := by simpa using hre
        clear HEZ HRS hr o2 b2 HSO HBK HBN HX HW HO2 HOK HTK HR
        generalize r.length = rn at *
        go_wp2
        go_ret2
        exact ⟨_, [], by rw [HP9.out]; rfl, rng.Own.nil _ _, fun h => absurd (HP9.out.symm.trans h) HRE.out, fun _ => rfl, HW2.out⟩
    · obtain rfl : j = K := by omega
      have hlt' : ¬ (j : Int) < (j : Int) := by omega
      have hOKa : PropOk L es := by
        have h9 := HOK.out
        rw [List.take_of_length_le (by rw [HK.out]; exact Nat.le_refl _)] at h9
        exact h9
      have HP0 : Hid (pe = 0) := by show _ = _; rw [HPE.out]; exact firstE_none _ _ hOKa.2.2
      have hcl : (catL L).length ≤ 200000000 := by have := catL_len hOKa.2.1 hlj; omega
      have HCA : Hid (∀ x, code x = true → (has (catL L) x = true ↔ propP n x)) := fun x hx => by rw [HPP.out]; exact hOKa.1 x hx
      have HJ : Hid (∀ W, Below wr.heap.size wr W → Calls Tryz.prog 118 #[u6] W fun e w' => ∃ v' r, e = .returned v' ∧ rng.Own w' W.heap.size v' r ∧ IsSet r (has (catL L)) ∧ Below W.heap.size W w') := fun W hb => join_any w.heap.size w.heap.size u6 L W (HSO.out.below hb) (by omega) hcl
      have HWD : Hid (∀ (A : Nat) (v : Value) (x : List R) (W : World), Below w.heap.size w W → A ≤ W.heap.size → rng.Own W A v x → IsSet x (has (catL L)) → Calls Tryz.prog 81 #[.agg #[.pointer (some ⟨tb, 0, none⟩), .bool c, .bool d, .bool mu, .int .i64 fo, .slice sa sn sc], v] W fun e w' => ∃ v' r, e = .returned v' ∧ rng.Own w' W.heap.size v' r ∧ IsP r (wideP c fo (propP n)) ∧ Below W.heap.size W w') := fun A v x W hb hA ho hx => widened_any tb c d mu fo sa sn sc A v x (propP n) W (HT.out.below hb) (HE.out.below hb) HSN.out (HS.out.below hb) hA ho (fun y hy => by rw [hx.2 y hy]; exact HCA.out y hy) (by have := rng.can_len hx.1; omega)
      obtain ⟨ua, uc, hu⟩ := lin.own_slice HSO.out.row
      subst hu
      clear HOK hOKa hcl HCA HSO HX HPE HPP HES
      have x0 := HBK.out.cell 0 (u := .pointer (some ⟨tb, 0, none⟩)) rfl
      have x1 := HBK.out.cell 1 (u := .bool c) rfl
      have x2 := HBK.out.cell 2 (u := .bool d) rfl
      have x3 := HBK.out.cell 3 (u := .bool mu) rfl
      have x4 := HBK.out.cell 4 (u := .int .i64 fo) rfl
      have x5 := HBK.out.cell 5 (u := .slice sa sn sc) rfl
      have y4 := HBN.out.cell 4 (u := .bool g) rfl
      have HWr : Hid (Below wr.heap.size wr wr) := Below.refl _ _
      generalize L.length = Ln at *
      go_wp2
      go_region_held3 (fun w' => w'.cell? ⟨w.heap.size, 0, none⟩ = some (.pointer (some ⟨tb, 0, none⟩)) ∧ w'.cell? ⟨w.heap.size, 1, none⟩ = some (.bool c) ∧ w'.cell? ⟨w.heap.size, 2, none⟩ = some (.bool d) ∧ w'.cell? ⟨w.heap.size, 3, none⟩ = some (.bool mu) ∧ w'.cell? ⟨w.heap.size, 4, none⟩ = some (.int .i64 fo) ∧ w'.cell? ⟨w.heap.size, 5, none⟩ = some (.slice sa sn sc) ∧ w'.cell? ⟨w.heap.size + 1, 4, none⟩ = some (.bool g)) (go_keep) (first
        | (go_at_call 118; refine (HJ.out _ (Below.refl _ _).drew).mono ?_; rintro e w1 ⟨v1, r1, rfl, o1, i1, b0⟩; have b1 : Below wr.heap.size wr w1 := (Below.refl _ wr).drew.trans b0; have O1 : Hid (rng.Own w1 wr.heap.size v1 r1) := o1; have I1 : Hid (IsSet r1 (has (catL L))) := i1; have B1 : Hid (Below w.heap.size w w1) := HW.out.trans (b1.mono HW.out.size); have BK1 := HBK.out.on b1; have BN1 := HBN.out.on b1; have z := cells7 BK1 BN1 4 (.bool g) rfl; have HBK1 : Hid (Bk w1 w.heap.size #[.pointer (some ⟨tb, 0, none⟩), .bool c, .bool d, .bool mu, .int .i64 fo, .slice sa sn sc] 94) := BK1; have HBN1 : Hid (Bk w1 (w.heap.size + 1) #[.int .i64 k, .int .i64 m, .int .i64 a, .int .i64 b, .bool g, .string n, .slice ta tl tc, .slice ka kl kc] 37) := BN1; have S1 : Hid (wr.heap.size ≤ w1.heap.size) := b1.size; clear o1 i1 b0 b1 BK1 BN1)
        | (go_at_call 81; refine (HWD.out _ _ _ _ B1.out S1.out O1.out I1.out).mono ?_; rintro e w2 ⟨v2, r2, rfl, o2, i2, b2⟩; have O2 : Hid (rng.Own w2 w.heap.size v2 r2) := own_mn o2 B1.out.size; have I2 : Hid (IsP r2 (wideP c fo (propP n))) := i2; have B2 : Hid (Below w.heap.size w w2) := B1.out.trans (b2.mono B1.out.size); have BK2 := HBK1.out.on b2; have BN2 := HBN1.out.on b2; have y := cells7 BK2 BN2 4 (.bool g) rfl; have HBK2 : Hid (Bk w2 w.heap.size #[.pointer (some ⟨tb, 0, none⟩), .bool c, .bool d, .bool mu, .int .i64 fo, .slice sa sn sc] 94) := BK2; have HBN2 : Hid (Bk w2 (w.heap.size + 1) #[.int .i64 k, .int .i64 m, .int .i64 a, .int .i64 b, .bool g, .string n, .slice ta tl tc, .slice ka kl kc] 37) := BN2; clear o2 i2 b2 BK2 BN2)
        | (go_at_call 122; refine (turned_any _ _ _ _ _ _ O2.out B2.out.size I2.out).mono ?_; rintro e w3 ⟨v3, r3, rfl, o3, i3, b3⟩; have O3 : Hid (rng.Own w3 w.heap.size v3 r3) := o3; have I3 : Hid (IsP r3 (negP g (wideP c fo (propP n)))) := i3; have B3 : Hid (Below w.heap.size w w3) := B2.out.trans (b3.mono B2.out.size); have x := cells7 (HBK2.out.on b3) (HBN2.out.on b3) 4 (.bool g) rfl; clear o3 i3 b3))
      all_goals go_wp2
      all_goals go_ret2
      all_goals exact ⟨_, r3, by rw [HP0.out]; rfl, O3.out, fun _ => I3.out, fun h => absurd HP0.out h, B3.out⟩
end Go.Proofs.YtpcnbamlmfmmpaaGreatDoor.cls
end
