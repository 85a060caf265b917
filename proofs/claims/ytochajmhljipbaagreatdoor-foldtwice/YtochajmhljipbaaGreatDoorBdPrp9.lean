/- Texts that the proof leans on, one behind the other. -/
import Derived.Test.YtochajmhljipbaaGreatDoorBdPrp8
import Derived.Test.YtochajmhljipbaaGreatDoorBdPrp2
import Derived.ProofKit
import Derived.OpenShut
import Derived.Deep.DeepHandedRow
import Derived.ChangeMaps5
import Derived.Deep.Strs

section
/- The document's Parts and Fold. -/
set_option linter.unusedVariables false
set_option linter.unusedSimpArgs false
namespace Go.Proofs.YtochajmhljipbaaGreatDoor.prp
open Go.RowKit Go.Maps lin

theorem dec_pos : ∀ x ∈ decL, 0 < (rcp x 0).length ∧ (rcp x 0).length ≤ 100 := by decide +kernel
theorem fol_pos : ∀ x ∈ folL, 0 < (rcp x 1).length ∧ (rcp x 1).length ≤ 100 ∧ ∀ y ∈ rcp x 1, 0 ≤ y ∧ y ≤ 1114111 := by decide +kernel
theorem fol_code : ∀ x ∈ folL, 0 ≤ x.1 ∧ x.2.1 ≤ 1114111 := by decide +kernel
theorem firstF_drop (full : Bool) {l : List RL} {k : Nat} {x : RL} (h : l[k]? = some x) (r : Int) : firstF full (l.drop k) r = if takesB full x && inR x r then some x else firstF full (l.drop (k + 1)) r := by
  have hk := (List.getElem?_eq_some_iff.1 h).1
  rw [List.drop_eq_getElem_cons hk, (List.getElem?_eq_some_iff.1 h).2]
  unfold firstF
  rw [List.find?_cons]
  cases (takesB full x && inR x r) <;> rfl
theorem iv_some {w : World} {v : Value} {xs : List Int} (h : IV w v xs) (h0 : 0 < xs.length) : ∃ b o c, v = .slice (some ⟨b, o, none⟩) xs.length c ∧ ∀ (j : Nat) (u : Value), (xs.map (Value.int .i64))[j]? = some u → w.cell? ((⟨b, o, none⟩ : Addr).add j) = some u := by
  obtain ⟨a, c, rfl, hv⟩ := h
  obtain ⟨b, o, rfl, hc⟩ := hv h0
  refine ⟨b, o, c, rfl, fun j u hj => ?_⟩
  rw [List.getElem?_map] at hj
  cases hx : xs[j]? with
  | none => rw [hx] at hj; cases hj
  | some x =>
    rw [hx] at hj
    cases hj
    have := hc j (List.getElem?_eq_some_iff.1 hx).1
    rw [List.getD_eq_getElem?_getD, hx, Option.getD_some] at this
    rw [Addr.add_lit]
    exact this
theorem empty_own (w : World) : (w.alloc (.cells #[] 3)).ownsRow w.heap.size 3 1 (.slice (some ⟨w.heap.size, 0, none⟩) 0 0) 0 [] := World.ownsRow_made (base := w.heap.size) (e := 3) (size := 1) w #[] 0 (Nat.le_refl _) (by decide) rfl
theorem ints_one (xs : List Int) : ∀ u ∈ xs.map (Value.int .i64), u.oneCell' = true := by
  intro u hu
  obtain ⟨x, _, rfl⟩ := List.mem_map.1 hu
  rfl
set_option maxHeartbeats 4000000 in
set_option maxRecDepth 1000000 in
theorem rfold_t (t : Nat) (r : Int) (full : Bool) (w : World) (h : RTabs w t) (hr : okI r) : Calls Tryz.prog 44 #[.pointer (some ⟨t, 0, none⟩), .int .i64 r, .bool full] w fun e w' => ∃ v, e = .returned v ∧ IV w' v (foldF full r) ∧ Below w.heap.size w w' := by
  obtain ⟨i0, hi, hz0, hy1, hz2⟩ := info_parts infoInt
  obtain ⟨vd, hcd, hVd⟩ := h.fol
  obtain ⟨rb, ro, rc, rfl, hrec⟩ := view_recs hVd fol_ok.1
  obtain ⟨vp, hcp, pb, pc, rfl, hp⟩ := h.fds
  have HREC : Hid (∀ (i : Nat) (r : RL), folL[i]? = some r → ∃ g o2 c2, RecM w rb (ro + i * 3) r g o2 c2) := hrec
  have HP : Hid (∀ (i : Nat) (x : RL), folL[i]? = some x → ∃ u, w.cell? ⟨pb, i, none⟩ = some u ∧ IV w u (rcp x 1) ∧ 0 < (rcp x 1).length ∧ (rcp x 1).length ≤ 100 ∧ (∀ y ∈ rcp x 1, 0 ≤ y ∧ y ≤ 1114111) ∧ 0 ≤ x.1 ∧ x.2.1 ≤ 1114111 ∧ (0 : Int) < (x.2.2.length : Int) ∧ x.2.2[0]? = some (x.2.2.getD 0 [])) := fun i x hx => by
    obtain ⟨u, h1, h2⟩ := hp i (rcp x 1) (by unfold folR; rw [List.getElem?_map, hx]; rfl)
    have hm := List.mem_of_getElem? hx
    obtain ⟨p1, p2, p3⟩ := fol_pos x hm
    have p4 := (fol_ok.2.2 x hm).1
    exact ⟨u, h1, h2, p1, p2, p3, (fol_code x hm).1, (fol_code x hm).2, by omega, by rw [List.getD_eq_getElem?_getD, List.getElem?_eq_getElem (by omega), Option.getD_some]⟩
  have HD : Hid (∀ (k : Nat) (x : RL), folL[k]? = some x → firstF full (folL.drop k) r = if takesB full x && inR x r then some x else firstF full (folL.drop (k + 1)) r) := fun k x hx => firstF_drop full hx r
  have HL : Hid (firstF full (folL.drop folL.length) r = none) := by unfold Hid; rw [List.drop_length]; rfl
  have HF0 : Hid (foldF full r = ((firstF full folL r).map (fun x => headAdd (rcp x 1) (r - x.1))).getD [r]) := foldF_first full r
  have hn : folL.length ≤ 1000 := fol_ok.2.1
  have hdr : folR.length = folL.length := by unfold folR; rw [List.length_map]
  rw [hdr] at hcp
  clear h hVd hrec hp hdr
  have HN : Hid (∀ k, k < folL.length → ∃ x, folL[k]? = some x) := fun k hk => ⟨_, List.getElem?_eq_getElem hk⟩
  have HS : Hid (firstF full folL r = firstF full (folL.drop 0) r) := rfl
  obtain ⟨hr1, hr2⟩ := hr
  generalize hnl : folL.length = nl at *
  generalize foldF full r = PF at *
  have HCD : Hid (∀ W, Below w.heap.size w W → W.cell? ⟨t, 8, none⟩ = some (.slice (some ⟨pb, 0, none⟩) nl pc)) := fun W hb => cell_below hb hcp
  go_enter Tryz.func44, Tryz.ntmps44
  go_wp2
  go_loopw [16] (fun i wr => ∃ k : Nat, k ≤ nl ∧ i = .int .i64 k ∧ Hid (firstF full folL r = firstF full (folL.drop k) r) ∧ Below w.heap.size w wr) (fun i _ => nl - (RowKit.intOf i).toNat)
  case atStart => exact ⟨0, Nat.zero_le _, rfl, HS, Below.refl _ w⟩
  case round =>
    obtain ⟨k, hk, rfl, HF, hbel⟩ := hrel
    by_cases hlt : k < nl
    · have hlt' : (k : Int) < (nl : Int) := by omega
      obtain ⟨x, hx⟩ := HN.out k hlt
      obtain ⟨fg, fo, fc, hrm0⟩ := HREC.out k x hx
      have hrm := hrm0.below hbel
      have HNX := HD.out k x hx
      have q0 := hrm.lo
      have q1 := hrm.hi
      have q2 := hrm.fv
      have hbs := hbel.size
      have hin : inR x r = (decide (x.1 ≤ r) && decide (r ≤ x.2.1)) := rfl
      obtain ⟨u, hu, hiv, hx0, hx1, hx2, hx3, hx4, hx5, hx6⟩ := HP.out k x hx
      have q3 := hrm.fs 0 _ hx6
      rw [Nat.add_zero] at q3
      have htd : takesB full x = ((x.2.2.getD 0 [] == [67]) || ((x.2.2.getD 0 [] == [70]) == full)) := rfl
      obtain ⟨b, o, c, rfl, hnews0⟩ := iv_some hiv hx0
      have hct := HCD.out wr hbel
      have hu2 := cell_below hbel hu
      have hlt1 : t < wr.heap.size := World.block_lt_of_cell? wr _ hct
      have hlt2 : pb < wr.heap.size := World.block_lt_of_cell? wr _ hu2
      have hlt3 : fg < wr.heap.size := World.block_lt_of_cell? wr _ q3
      have e1 : ((BA (x.2.2.getD 0 [])).toList == [67]) = (x.2.2.getD 0 [] == [67]) := by rw [Lib.toList_data, BA_data]
      have e2 : ((BA (x.2.2.getD 0 [])).toList == [70]) = (x.2.2.getD 0 [] == [70]) := by rw [Lib.toList_data, BA_data]
      clear hrm hrm0 hx hiv hx6 hcd hcp hu
      obtain ⟨lo, hi', fs⟩ := x
      simp only at q0 q1 q2 q3 hx3 hx4 hx5 htd e1 e2
      generalize hXS : rcp (lo, hi', fs) 1 = XS at *
      generalize hL3 : fs.length = n3 at *
      have hx7 : 0 < n3 := by omega
      generalize hs0 : fs.getD 0 [] = S0 at *
      clear hL3 hs0
      by_cases c1 : lo ≤ r
      · have c1' : ¬ r < lo := by omega
        by_cases c2 : r ≤ hi'
        · have c2' : ¬ hi' < r := by omega
          cases t1 : (S0 == [67]) with
          | true =>
            have htk : takesB full (lo, hi', fs) = true := by rw [htd, t1]; rfl
            rw [t1] at e1
            clear htd e2 t1
            generalize BA S0 = F0 at *
            have HX : Hid (PF = headAdd XS (r - lo)) := by
              unfold Hid; rw [HF0.out, HF.out, HNX, htk, hin, decide_eq_true c1, decide_eq_true c2]
              show headAdd (rcp (lo, hi', fs) 1) (r - lo) = _
              rw [hXS]
            clear HNX hin HF htk HF0 hXS
            obtain ⟨x0, xt, hXC⟩ : ∃ a b, XS = a :: b := by
              cases hq : XS with
              | nil => rw [hq] at hx0; simp at hx0
              | cons a b => exact ⟨a, b, rfl⟩
            obtain ⟨y1, y2⟩ := hx2 x0 (by rw [hXC]; simp)
            have HXC : Hid (XS = x0 :: xt) := hXC
            clear hXC
            have B2 : Below w.heap.size w ((wr.alloc (.cells #[.int .i64 lo, .int .i64 hi', .slice (some ⟨fg, fo, none⟩) n3 fc] 74)).alloc (.cells #[] 3)) := (hbel.alloc hbs _).alloc (by simp; omega) _
            have HO1 : ((wr.alloc (.cells #[.int .i64 lo, .int .i64 hi', .slice (some ⟨fg, fo, none⟩) n3 fc] 74)).alloc (.cells #[] 3)).ownsRow (wr.heap.size + 1) 3 1 (.slice (some ⟨wr.heap.size + 1, 0, none⟩) 0 0) 0 [] := by
              have := empty_own (wr.alloc (.cells #[.int .i64 lo, .int .i64 hi', .slice (some ⟨fg, fo, none⟩) n3 fc] 74))
              simp only [World.size_alloc] at this
              exact this
            have HNW : Hid (∀ (j : Nat) (u : Value), (XS.map (Value.int .i64))[j]? = some u → ((wr.alloc (.cells #[.int .i64 lo, .int .i64 hi', .slice (some ⟨fg, fo, none⟩) n3 fc] 74)).alloc (.cells #[] 3)).cell? ((⟨b, o, none⟩ : Addr).add j) = some u) := fun j u hj => cell_below B2 (hnews0 j u hj)
            have HR0 : Hid (((wr.alloc (.cells #[.int .i64 lo, .int .i64 hi', .slice (some ⟨fg, fo, none⟩) n3 fc] 74)).alloc (.cells #[] 3)).cell? ⟨wr.heap.size, 0, none⟩ = some (.int .i64 lo)) := (pastA _ _ ⟨wr.heap.size, 0, none⟩ (by simp)).trans (cell_of_row _ _ 0 _ _ _ (World.alloc_heap_new _ _))
            have ne1 : ¬ t = wr.heap.size := by omega
            have ne2 : ¬ pb = wr.heap.size := by omega
            have ne3 : ¬ fg = wr.heap.size := by omega
            clear hnews0
            go_wp2_with (at_builtin; refine wpList_append_own _ rfl _ _ 22 rfl (wr.heap.size + 1) 3 i0 (.int .i64 0) 1 8 Tryz.underlying22 hi hz0 hy1 hz2 rfl (by decide) _ _ _ rfl HO1 ⟨b, o, none⟩ XS.length c (XS.map (Value.int .i64)) rfl (by simp) HNW.out (ints_one XS) ?c3 ?c4 ?c5 ?_)
            case c3 => unfold maxLen; omega
            case c4 => omega
            try (case c5 => simp)
            intro v' w4 hown4 hgrow _
            have hown5 : w4.ownsRow (wr.heap.size + 1) 3 1 v' XS.length (XS.map (Value.int .i64)) := by
              simpa using hown4
            obtain ⟨g, cap, rfl⟩ : ∃ g cap, v' = .slice (some ⟨g, 0, none⟩) XS.length cap := by
              rcases hown5.2 with ⟨_, hn0⟩ | ⟨g, cap, cur, he, _⟩
              · omega
              · exact ⟨g, cap, he⟩
            have R2 := Below.grown B2 hgrow (by simp; omega) (fun j e => by cases e; show w.heap.size ≤ wr.heap.size + 1; omega)
            have hr0 : w4.cell? ⟨wr.heap.size, 0, none⟩ = some (.int .i64 lo) := hgrow.cell HR0.out (fun e => by simp [Value.ownBlock] at e)
            have hgw : wr.heap.size + 1 ≤ g := (hown5.lt g rfl).1
            obtain ⟨hset, hfr, hce⟩ := own_set hown5 hx0 (.int .i64 (x0 + (r - lo)))
            have hce2 : w4.cell? ⟨g, 0, none⟩ = some (.int .i64 x0) := by rw [hce, HXC.out]; rfl
            have HFIN : Hid (IV (w4.setCell ⟨g, 0, none⟩ (.int .i64 (x0 + (r - lo)))) (.slice (some ⟨g, 0, none⟩) XS.length cap) PF ∧ Below w.heap.size w (w4.setCell ⟨g, 0, none⟩ (.int .i64 (x0 + (r - lo))))) := by
              refine ⟨?_, R2.trans ⟨rfl, rfl, rfl, by simp, fun q hq => heap_setCell_other _ _ _ _ (by show q ≠ g; omega)⟩⟩
              have hl : PF = (x0 + (r - lo)) :: xt := by rw [HX.out, HXC.out]; rfl
              have e2 : (XS.map (Value.int .i64)).set 0 (.int .i64 (x0 + (r - lo))) = PF.map (Value.int .i64) := by rw [HXC.out, hl]; rfl
              have e3 : XS.length = PF.length := by rw [HXC.out, hl]; rfl
              rw [e2, e3] at hset
              rw [e3]
              exact IOwn.iv (base := wr.heap.size + 1) hset
            have hxn : 0 < XS.length := by omega
            clear hown4 hown5 hgrow HO1 HNW B2 hset hce HX hx2 R2 HXC HR0
            try simp only [Nat.zero_add]
            generalize XS.length = XN at *
            have hxn' : (0 : Int) < (XN : Int) := by omega
            have wsub : IntKind.i64.wrap (r - lo) = r - lo := by rw [IntKind.wrap_i64]; omega
            have wadd : IntKind.i64.wrap (x0 + (r - lo)) = x0 + (r - lo) := by rw [IntKind.wrap_i64]; omega
            have wsub2 : wrap64 (r - lo) = r - lo := by unfold wrap64; omega
            have wadd2 : wrap64 (x0 + (r - lo)) = x0 + (r - lo) := by unfold wrap64; omega
            go_wp2
            refine wp_region_noPanic ?_
            refine wp_region_held_drew (S := fun w' => w'.cell? ⟨wr.heap.size, 0, none⟩ = some (.int .i64 lo)) (by kernel_rfl) ?_ (fun hHeld => ?_)
            · exact hr0
            refine wpAnyH_take (i := 0) (v := ?_) rfl (by kernel_rfl) (by kernel_rfl) (by kernel_rfl) (fun _ _ _ h => h) (Or.inl ⟨by rfl, ?_⟩) (by assumption) ?_
            rotate_left
            · (intro w' hSw; (try dsimp only at hSw); go_simp; try with_reducible rfl)
            try simp only [Act.put, List.setIfInBounds_toArray, List.set_cons_zero, List.set_cons_succ]
            refine wpAnyH_take (i := 1) (v := ?_) rfl (by kernel_rfl) (by kernel_rfl) (by kernel_rfl) (fun _ _ _ h => h) (Or.inl ⟨by rfl, ?_⟩) (by assumption) ?_
            rotate_left
            · (intro w' hSw; (try dsimp only at hSw); go_simp; try with_reducible rfl)
            try simp only [Act.put, List.setIfInBounds_toArray, List.set_cons_zero, List.set_cons_succ]
            refine wpAnyH_take (i := 3) (v := ?_) rfl (by kernel_rfl) (by kernel_rfl) (by kernel_rfl) (fun _ _ _ h => h) (Or.inl ⟨by rfl, ?_⟩) (by assumption) ?_
            rotate_left
            · (intro w' hSw; (try dsimp only at hSw); go_simp; try with_reducible rfl)
            try simp only [Act.put, List.setIfInBounds_toArray, List.set_cons_zero, List.set_cons_succ]
            refine wpAnyH_take (i := 4) (v := ?_) rfl (by kernel_rfl) (by kernel_rfl) (by kernel_rfl) (fun _ _ _ h => h) (Or.inl ⟨by rfl, ?_⟩) (by assumption) ?_
            rotate_left
            · (intro w' hSw; (try dsimp only at hSw); go_simp; try with_reducible rfl)
            try simp only [Act.put, List.setIfInBounds_toArray, List.set_cons_zero, List.set_cons_succ]
            refine wpAnyH_take (i := 5) (v := ?_) rfl (by kernel_rfl) (by kernel_rfl) (by kernel_rfl) (fun _ _ _ h => h) (Or.inl ⟨by rfl, ?_⟩) (by assumption) ?_
            rotate_left
            · (intro w' hSw; (try dsimp only at hSw); go_simp; try with_reducible rfl)
            try simp only [Act.put, List.setIfInBounds_toArray, List.set_cons_zero, List.set_cons_succ]
            refine wpAnyH_take (i := 6) (v := ?_) rfl (by kernel_rfl) (by kernel_rfl) (by kernel_rfl) (fun _ _ _ h => h) (Or.inl ⟨by rfl, ?_⟩) (by assumption) ?_
            rotate_left
            · (intro w' hSw; (try dsimp only at hSw); go_simp; try with_reducible rfl)
            try simp only [Act.put, List.setIfInBounds_toArray, List.set_cons_zero, List.set_cons_succ]
            refine wpAnyH_ready (rs := [2]) (by kernel_rfl) (by simp) ?_
            refine AllReadyH.cons rfl (fun K hK => ?_) AllReadyH.nil
            go_simp
            refine hK.out _ _ ?_ (fun hHeld2 => ?_)
            · exact hr0
            clear hK K hHeld
            have hHeld := hHeld2
            clear hHeld2
            try simp only [Act.put, List.setIfInBounds_toArray, List.set_cons_zero, List.set_cons_succ]
            refine wpAnyH_take (i := 7) (v := ?_) rfl (by kernel_rfl) (by kernel_rfl) (by kernel_rfl) (fun _ _ _ h => h) (Or.inl ⟨by rfl, ?_⟩) (by assumption) ?_
            rotate_left
            · (intro w' hSw; (try dsimp only at hSw); go_simp; try with_reducible rfl)
            try simp only [Act.put, List.setIfInBounds_toArray, List.set_cons_zero, List.set_cons_succ]
            refine wpAnyH_take (i := 8) (v := ?_) rfl (by kernel_rfl) (by kernel_rfl) (by kernel_rfl) (fun _ _ _ h => h) (Or.inl ⟨by rfl, ?_⟩) (by assumption) ?_
            rotate_left
            · (intro w' hSw; (try dsimp only at hSw); go_simp; try with_reducible rfl)
            try simp only [Act.put, List.setIfInBounds_toArray, List.set_cons_zero, List.set_cons_succ]
            refine wpAnyH_ready (rs := [9]) (by kernel_rfl) (by simp) ?_
            refine AllReadyH.cons rfl (fun K hK => ?_) AllReadyH.nil
            go_simp
            refine hK.out _ _ ?_ (fun hHeld2 => ?_)
            · exact (World.cell?_of_block (heap_setCell_other _ _ _ _ (by show wr.heap.size ≠ g; omega))).trans hr0
            clear hK K hHeld hHeld2
            try simp only [Act.put, List.setIfInBounds_toArray, List.set_cons_zero, List.set_cons_succ]
            refine wpAnyH_done (by kernel_rfl) ?_ _
            refine NoPanic.normal ?_
            go_wp2
            try rw [Exit.noGoto_ret]
            go_ret
            exact ⟨_, rfl, HFIN.out.1, have q := HFIN.out.2; ⟨q.os, q.tape, q.output, q.size, q.block⟩⟩
          | false =>
            rw [t1] at e1
            cases t2 : (S0 == [70]) with
            | true =>
              rw [t2] at e2
              cases full with
              | true =>
                have htk : takesB true (lo, hi', fs) = true := by rw [htd, t1, t2]; rfl
                clear htd t1 t2
                generalize BA S0 = F0 at *
                have HX : Hid (PF = headAdd XS (r - lo)) := by
                  unfold Hid; rw [HF0.out, HF.out, HNX, htk, hin, decide_eq_true c1, decide_eq_true c2]
                  show headAdd (rcp (lo, hi', fs) 1) (r - lo) = _
                  rw [hXS]
                clear HNX hin HF htk HF0 hXS
                obtain ⟨x0, xt, hXC⟩ : ∃ a b, XS = a :: b := by
                  cases hq : XS with
                  | nil => rw [hq] at hx0; simp at hx0
                  | cons a b => exact ⟨a, b, rfl⟩
                obtain ⟨y1, y2⟩ := hx2 x0 (by rw [hXC]; simp)
                have HXC : Hid (XS = x0 :: xt) := hXC
                clear hXC
                have B2 : Below w.heap.size w ((wr.alloc (.cells #[.int .i64 lo, .int .i64 hi', .slice (some ⟨fg, fo, none⟩) n3 fc] 74)).alloc (.cells #[] 3)) := (hbel.alloc hbs _).alloc (by simp; omega) _
                have HO1 : ((wr.alloc (.cells #[.int .i64 lo, .int .i64 hi', .slice (some ⟨fg, fo, none⟩) n3 fc] 74)).alloc (.cells #[] 3)).ownsRow (wr.heap.size + 1) 3 1 (.slice (some ⟨wr.heap.size + 1, 0, none⟩) 0 0) 0 [] := by
                  have := empty_own (wr.alloc (.cells #[.int .i64 lo, .int .i64 hi', .slice (some ⟨fg, fo, none⟩) n3 fc] 74))
                  simp only [World.size_alloc] at this
                  exact this
                have HNW : Hid (∀ (j : Nat) (u : Value), (XS.map (Value.int .i64))[j]? = some u → ((wr.alloc (.cells #[.int .i64 lo, .int .i64 hi', .slice (some ⟨fg, fo, none⟩) n3 fc] 74)).alloc (.cells #[] 3)).cell? ((⟨b, o, none⟩ : Addr).add j) = some u) := fun j u hj => cell_below B2 (hnews0 j u hj)
                have HR0 : Hid (((wr.alloc (.cells #[.int .i64 lo, .int .i64 hi', .slice (some ⟨fg, fo, none⟩) n3 fc] 74)).alloc (.cells #[] 3)).cell? ⟨wr.heap.size, 0, none⟩ = some (.int .i64 lo)) := (pastA _ _ ⟨wr.heap.size, 0, none⟩ (by simp)).trans (cell_of_row _ _ 0 _ _ _ (World.alloc_heap_new _ _))
                have ne1 : ¬ t = wr.heap.size := by omega
                have ne2 : ¬ pb = wr.heap.size := by omega
                have ne3 : ¬ fg = wr.heap.size := by omega
                clear hnews0
                go_wp2_with (at_builtin; refine wpList_append_own _ rfl _ _ 22 rfl (wr.heap.size + 1) 3 i0 (.int .i64 0) 1 8 Tryz.underlying22 hi hz0 hy1 hz2 rfl (by decide) _ _ _ rfl HO1 ⟨b, o, none⟩ XS.length c (XS.map (Value.int .i64)) rfl (by simp) HNW.out (ints_one XS) ?c3 ?c4 ?c5 ?_)
                case c3 => unfold maxLen; omega
                case c4 => omega
                try (case c5 => simp)
                intro v' w4 hown4 hgrow _
                have hown5 : w4.ownsRow (wr.heap.size + 1) 3 1 v' XS.length (XS.map (Value.int .i64)) := by
                  simpa using hown4
                obtain ⟨g, cap, rfl⟩ : ∃ g cap, v' = .slice (some ⟨g, 0, none⟩) XS.length cap := by
                  rcases hown5.2 with ⟨_, hn0⟩ | ⟨g, cap, cur, he, _⟩
                  · omega
                  · exact ⟨g, cap, he⟩
                have R2 := Below.grown B2 hgrow (by simp; omega) (fun j e => by cases e; show w.heap.size ≤ wr.heap.size + 1; omega)
                have hr0 : w4.cell? ⟨wr.heap.size, 0, none⟩ = some (.int .i64 lo) := hgrow.cell HR0.out (fun e => by simp [Value.ownBlock] at e)
                have hgw : wr.heap.size + 1 ≤ g := (hown5.lt g rfl).1
                obtain ⟨hset, hfr, hce⟩ := own_set hown5 hx0 (.int .i64 (x0 + (r - lo)))
                have hce2 : w4.cell? ⟨g, 0, none⟩ = some (.int .i64 x0) := by rw [hce, HXC.out]; rfl
                have HFIN : Hid (IV (w4.setCell ⟨g, 0, none⟩ (.int .i64 (x0 + (r - lo)))) (.slice (some ⟨g, 0, none⟩) XS.length cap) PF ∧ Below w.heap.size w (w4.setCell ⟨g, 0, none⟩ (.int .i64 (x0 + (r - lo))))) := by
                  refine ⟨?_, R2.trans ⟨rfl, rfl, rfl, by simp, fun q hq => heap_setCell_other _ _ _ _ (by show q ≠ g; omega)⟩⟩
                  have hl : PF = (x0 + (r - lo)) :: xt := by rw [HX.out, HXC.out]; rfl
                  have e2 : (XS.map (Value.int .i64)).set 0 (.int .i64 (x0 + (r - lo))) = PF.map (Value.int .i64) := by rw [HXC.out, hl]; rfl
                  have e3 : XS.length = PF.length := by rw [HXC.out, hl]; rfl
                  rw [e2, e3] at hset
                  rw [e3]
                  exact IOwn.iv (base := wr.heap.size + 1) hset
                have hxn : 0 < XS.length := by omega
                clear hown4 hown5 hgrow HO1 HNW B2 hset hce HX hx2 R2 HXC HR0
                try simp only [Nat.zero_add]
                generalize XS.length = XN at *
                have hxn' : (0 : Int) < (XN : Int) := by omega
                have wsub : IntKind.i64.wrap (r - lo) = r - lo := by rw [IntKind.wrap_i64]; omega
                have wadd : IntKind.i64.wrap (x0 + (r - lo)) = x0 + (r - lo) := by rw [IntKind.wrap_i64]; omega
                have wsub2 : wrap64 (r - lo) = r - lo := by unfold wrap64; omega
                have wadd2 : wrap64 (x0 + (r - lo)) = x0 + (r - lo) := by unfold wrap64; omega
                go_wp2
                refine wp_region_noPanic ?_
                refine wp_region_held_drew (S := fun w' => w'.cell? ⟨wr.heap.size, 0, none⟩ = some (.int .i64 lo)) (by kernel_rfl) ?_ (fun hHeld => ?_)
                · exact hr0
                refine wpAnyH_take (i := 0) (v := ?_) rfl (by kernel_rfl) (by kernel_rfl) (by kernel_rfl) (fun _ _ _ h => h) (Or.inl ⟨by rfl, ?_⟩) (by assumption) ?_
                rotate_left
                · (intro w' hSw; (try dsimp only at hSw); go_simp; try with_reducible rfl)
                try simp only [Act.put, List.setIfInBounds_toArray, List.set_cons_zero, List.set_cons_succ]
                refine wpAnyH_take (i := 1) (v := ?_) rfl (by kernel_rfl) (by kernel_rfl) (by kernel_rfl) (fun _ _ _ h => h) (Or.inl ⟨by rfl, ?_⟩) (by assumption) ?_
                rotate_left
                · (intro w' hSw; (try dsimp only at hSw); go_simp; try with_reducible rfl)
                try simp only [Act.put, List.setIfInBounds_toArray, List.set_cons_zero, List.set_cons_succ]
                refine wpAnyH_take (i := 3) (v := ?_) rfl (by kernel_rfl) (by kernel_rfl) (by kernel_rfl) (fun _ _ _ h => h) (Or.inl ⟨by rfl, ?_⟩) (by assumption) ?_
                rotate_left
                · (intro w' hSw; (try dsimp only at hSw); go_simp; try with_reducible rfl)
                try simp only [Act.put, List.setIfInBounds_toArray, List.set_cons_zero, List.set_cons_succ]
                refine wpAnyH_take (i := 4) (v := ?_) rfl (by kernel_rfl) (by kernel_rfl) (by kernel_rfl) (fun _ _ _ h => h) (Or.inl ⟨by rfl, ?_⟩) (by assumption) ?_
                rotate_left
                · (intro w' hSw; (try dsimp only at hSw); go_simp; try with_reducible rfl)
                try simp only [Act.put, List.setIfInBounds_toArray, List.set_cons_zero, List.set_cons_succ]
                refine wpAnyH_take (i := 5) (v := ?_) rfl (by kernel_rfl) (by kernel_rfl) (by kernel_rfl) (fun _ _ _ h => h) (Or.inl ⟨by rfl, ?_⟩) (by assumption) ?_
                rotate_left
                · (intro w' hSw; (try dsimp only at hSw); go_simp; try with_reducible rfl)
                try simp only [Act.put, List.setIfInBounds_toArray, List.set_cons_zero, List.set_cons_succ]
                refine wpAnyH_take (i := 6) (v := ?_) rfl (by kernel_rfl) (by kernel_rfl) (by kernel_rfl) (fun _ _ _ h => h) (Or.inl ⟨by rfl, ?_⟩) (by assumption) ?_
                rotate_left
                · (intro w' hSw; (try dsimp only at hSw); go_simp; try with_reducible rfl)
                try simp only [Act.put, List.setIfInBounds_toArray, List.set_cons_zero, List.set_cons_succ]
                refine wpAnyH_ready (rs := [2]) (by kernel_rfl) (by simp) ?_
                refine AllReadyH.cons rfl (fun K hK => ?_) AllReadyH.nil
                go_simp
                refine hK.out _ _ ?_ (fun hHeld2 => ?_)
                · exact hr0
                clear hK K hHeld
                have hHeld := hHeld2
                clear hHeld2
                try simp only [Act.put, List.setIfInBounds_toArray, List.set_cons_zero, List.set_cons_succ]
                refine wpAnyH_take (i := 7) (v := ?_) rfl (by kernel_rfl) (by kernel_rfl) (by kernel_rfl) (fun _ _ _ h => h) (Or.inl ⟨by rfl, ?_⟩) (by assumption) ?_
                rotate_left
                · (intro w' hSw; (try dsimp only at hSw); go_simp; try with_reducible rfl)
                try simp only [Act.put, List.setIfInBounds_toArray, List.set_cons_zero, List.set_cons_succ]
                refine wpAnyH_take (i := 8) (v := ?_) rfl (by kernel_rfl) (by kernel_rfl) (by kernel_rfl) (fun _ _ _ h => h) (Or.inl ⟨by rfl, ?_⟩) (by assumption) ?_
                rotate_left
                · (intro w' hSw; (try dsimp only at hSw); go_simp; try with_reducible rfl)
                try simp only [Act.put, List.setIfInBounds_toArray, List.set_cons_zero, List.set_cons_succ]
                refine wpAnyH_ready (rs := [9]) (by kernel_rfl) (by simp) ?_
                refine AllReadyH.cons rfl (fun K hK => ?_) AllReadyH.nil
                go_simp
                refine hK.out _ _ ?_ (fun hHeld2 => ?_)
                · exact (World.cell?_of_block (heap_setCell_other _ _ _ _ (by show wr.heap.size ≠ g; omega))).trans hr0
                clear hK K hHeld hHeld2
                try simp only [Act.put, List.setIfInBounds_toArray, List.set_cons_zero, List.set_cons_succ]
                refine wpAnyH_done (by kernel_rfl) ?_ _
                refine NoPanic.normal ?_
                go_wp2
                try rw [Exit.noGoto_ret]
                go_ret
                exact ⟨_, rfl, HFIN.out.1, have q := HFIN.out.2; ⟨q.os, q.tape, q.output, q.size, q.block⟩⟩
              | false =>
                have htk : takesB false (lo, hi', fs) = false := by rw [htd, t1, t2]; rfl
                clear htd t1 t2
                generalize BA S0 = F0 at *
                have HX : Hid (firstF false folL r = firstF false (folL.drop (k + 1)) r) := by
                  unfold Hid; rw [HF.out, HNX, htk, Bool.false_and, if_neg (by decide)]
                clear HNX hin HF htk HF0 hXS hnews0
                go_wp2
                exact ⟨⟨k + 1, by omega, by go_num, HX, hbel.alloc hbs _⟩, by simp [RowKit.intOf]; omega⟩
            | false =>
              rw [t2] at e2
              cases full with
              | true =>
                have htk : takesB true (lo, hi', fs) = false := by rw [htd, t1, t2]; rfl
                clear htd t1 t2
                generalize BA S0 = F0 at *
                have HX : Hid (firstF true folL r = firstF true (folL.drop (k + 1)) r) := by
                  unfold Hid; rw [HF.out, HNX, htk, Bool.false_and, if_neg (by decide)]
                clear HNX hin HF htk HF0 hXS hnews0
                go_wp2
                exact ⟨⟨k + 1, by omega, by go_num, HX, hbel.alloc hbs _⟩, by simp [RowKit.intOf]; omega⟩
              | false =>
                have htk : takesB false (lo, hi', fs) = true := by rw [htd, t1, t2]; rfl
                clear htd t1 t2
                generalize BA S0 = F0 at *
                have HX : Hid (PF = headAdd XS (r - lo)) := by
                  unfold Hid; rw [HF0.out, HF.out, HNX, htk, hin, decide_eq_true c1, decide_eq_true c2]
                  show headAdd (rcp (lo, hi', fs) 1) (r - lo) = _
                  rw [hXS]
                clear HNX hin HF htk HF0 hXS
                obtain ⟨x0, xt, hXC⟩ : ∃ a b, XS = a :: b := by
                  cases hq : XS with
                  | nil => rw [hq] at hx0; simp at hx0
                  | cons a b => exact ⟨a, b, rfl⟩
                obtain ⟨y1, y2⟩ := hx2 x0 (by rw [hXC]; simp)
                have HXC : Hid (XS = x0 :: xt) := hXC
                clear hXC
                have B2 : Below w.heap.size w ((wr.alloc (.cells #[.int .i64 lo, .int .i64 hi', .slice (some ⟨fg, fo, none⟩) n3 fc] 74)).alloc (.cells #[] 3)) := (hbel.alloc hbs _).alloc (by simp; omega) _
                have HO1 : ((wr.alloc (.cells #[.int .i64 lo, .int .i64 hi', .slice (some ⟨fg, fo, none⟩) n3 fc] 74)).alloc (.cells #[] 3)).ownsRow (wr.heap.size + 1) 3 1 (.slice (some ⟨wr.heap.size + 1, 0, none⟩) 0 0) 0 [] := by
                  have := empty_own (wr.alloc (.cells #[.int .i64 lo, .int .i64 hi', .slice (some ⟨fg, fo, none⟩) n3 fc] 74))
                  simp only [World.size_alloc] at this
                  exact this
                have HNW : Hid (∀ (j : Nat) (u : Value), (XS.map (Value.int .i64))[j]? = some u → ((wr.alloc (.cells #[.int .i64 lo, .int .i64 hi', .slice (some ⟨fg, fo, none⟩) n3 fc] 74)).alloc (.cells #[] 3)).cell? ((⟨b, o, none⟩ : Addr).add j) = some u) := fun j u hj => cell_below B2 (hnews0 j u hj)
                have HR0 : Hid (((wr.alloc (.cells #[.int .i64 lo, .int .i64 hi', .slice (some ⟨fg, fo, none⟩) n3 fc] 74)).alloc (.cells #[] 3)).cell? ⟨wr.heap.size, 0, none⟩ = some (.int .i64 lo)) := (pastA _ _ ⟨wr.heap.size, 0, none⟩ (by simp)).trans (cell_of_row _ _ 0 _ _ _ (World.alloc_heap_new _ _))
                have ne1 : ¬ t = wr.heap.size := by omega
                have ne2 : ¬ pb = wr.heap.size := by omega
                have ne3 : ¬ fg = wr.heap.size := by omega
                clear hnews0
                go_wp2_with (at_builtin; refine wpList_append_own _ rfl _ _ 22 rfl (wr.heap.size + 1) 3 i0 (.int .i64 0) 1 8 Tryz.underlying22 hi hz0 hy1 hz2 rfl (by decide) _ _ _ rfl HO1 ⟨b, o, none⟩ XS.length c (XS.map (Value.int .i64)) rfl (by simp) HNW.out (ints_one XS) ?c3 ?c4 ?c5 ?_)
                case c3 => unfold maxLen; omega
                case c4 => omega
                try (case c5 => simp)
                intro v' w4 hown4 hgrow _
                have hown5 : w4.ownsRow (wr.heap.size + 1) 3 1 v' XS.length (XS.map (Value.int .i64)) := by
                  simpa using hown4
                obtain ⟨g, cap, rfl⟩ : ∃ g cap, v' = .slice (some ⟨g, 0, none⟩) XS.length cap := by
                  rcases hown5.2 with ⟨_, hn0⟩ | ⟨g, cap, cur, he, _⟩
                  · omega
                  · exact ⟨g, cap, he⟩
                have R2 := Below.grown B2 hgrow (by simp; omega) (fun j e => by cases e; show w.heap.size ≤ wr.heap.size + 1; omega)
                have hr0 : w4.cell? ⟨wr.heap.size, 0, none⟩ = some (.int .i64 lo) := hgrow.cell HR0.out (fun e => by simp [Value.ownBlock] at e)
                have hgw : wr.heap.size + 1 ≤ g := (hown5.lt g rfl).1
                obtain ⟨hset, hfr, hce⟩ := own_set hown5 hx0 (.int .i64 (x0 + (r - lo)))
                have hce2 : w4.cell? ⟨g, 0, none⟩ = some (.int .i64 x0) := by rw [hce, HXC.out]; rfl
                have HFIN : Hid (IV (w4.setCell ⟨g, 0, none⟩ (.int .i64 (x0 + (r - lo)))) (.slice (some ⟨g, 0, none⟩) XS.length cap) PF ∧ Below w.heap.size w (w4.setCell ⟨g, 0, none⟩ (.int .i64 (x0 + (r - lo))))) := by
                  refine ⟨?_, R2.trans ⟨rfl, rfl, rfl, by simp, fun q hq => heap_setCell_other _ _ _ _ (by show q ≠ g; omega)⟩⟩
                  have hl : PF = (x0 + (r - lo)) :: xt := by rw [HX.out, HXC.out]; rfl
                  have e2 : (XS.map (Value.int .i64)).set 0 (.int .i64 (x0 + (r - lo))) = PF.map (Value.int .i64) := by rw [HXC.out, hl]; rfl
                  have e3 : XS.length = PF.length := by rw [HXC.out, hl]; rfl
                  rw [e2, e3] at hset
                  rw [e3]
                  exact IOwn.iv (base := wr.heap.size + 1) hset
                have hxn : 0 < XS.length := by omega
                clear hown4 hown5 hgrow HO1 HNW B2 hset hce HX hx2 R2 HXC HR0
                try simp only [Nat.zero_add]
                generalize XS.length = XN at *
                have hxn' : (0 : Int) < (XN : Int) := by omega
                have wsub : IntKind.i64.wrap (r - lo) = r - lo := by rw [IntKind.wrap_i64]; omega
                have wadd : IntKind.i64.wrap (x0 + (r - lo)) = x0 + (r - lo) := by rw [IntKind.wrap_i64]; omega
                have wsub2 : wrap64 (r - lo) = r - lo := by unfold wrap64; omega
                have wadd2 : wrap64 (x0 + (r - lo)) = x0 + (r - lo) := by unfold wrap64; omega
                go_wp2
                refine wp_region_noPanic ?_
                refine wp_region_held_drew (S := fun w' => w'.cell? ⟨wr.heap.size, 0, none⟩ = some (.int .i64 lo)) (by kernel_rfl) ?_ (fun hHeld => ?_)
                · exact hr0
                refine wpAnyH_take (i := 0) (v := ?_) rfl (by kernel_rfl) (by kernel_rfl) (by kernel_rfl) (fun _ _ _ h => h) (Or.inl ⟨by rfl, ?_⟩) (by assumption) ?_
                rotate_left
                · (intro w' hSw; (try dsimp only at hSw); go_simp; try with_reducible rfl)
                try simp only [Act.put, List.setIfInBounds_toArray, List.set_cons_zero, List.set_cons_succ]
                refine wpAnyH_take (i := 1) (v := ?_) rfl (by kernel_rfl) (by kernel_rfl) (by kernel_rfl) (fun _ _ _ h => h) (Or.inl ⟨by rfl, ?_⟩) (by assumption) ?_
                rotate_left
                · (intro w' hSw; (try dsimp only at hSw); go_simp; try with_reducible rfl)
                try simp only [Act.put, List.setIfInBounds_toArray, List.set_cons_zero, List.set_cons_succ]
                refine wpAnyH_take (i := 3) (v := ?_) rfl (by kernel_rfl) (by kernel_rfl) (by kernel_rfl) (fun _ _ _ h => h) (Or.inl ⟨by rfl, ?_⟩) (by assumption) ?_
                rotate_left
                · (intro w' hSw; (try dsimp only at hSw); go_simp; try with_reducible rfl)
                try simp only [Act.put, List.setIfInBounds_toArray, List.set_cons_zero, List.set_cons_succ]
                refine wpAnyH_take (i := 4) (v := ?_) rfl (by kernel_rfl) (by kernel_rfl) (by kernel_rfl) (fun _ _ _ h => h) (Or.inl ⟨by rfl, ?_⟩) (by assumption) ?_
                rotate_left
                · (intro w' hSw; (try dsimp only at hSw); go_simp; try with_reducible rfl)
                try simp only [Act.put, List.setIfInBounds_toArray, List.set_cons_zero, List.set_cons_succ]
                refine wpAnyH_take (i := 5) (v := ?_) rfl (by kernel_rfl) (by kernel_rfl) (by kernel_rfl) (fun _ _ _ h => h) (Or.inl ⟨by rfl, ?_⟩) (by assumption) ?_
                rotate_left
                · (intro w' hSw; (try dsimp only at hSw); go_simp; try with_reducible rfl)
                try simp only [Act.put, List.setIfInBounds_toArray, List.set_cons_zero, List.set_cons_succ]
                refine wpAnyH_take (i := 6) (v := ?_) rfl (by kernel_rfl) (by kernel_rfl) (by kernel_rfl) (fun _ _ _ h => h) (Or.inl ⟨by rfl, ?_⟩) (by assumption) ?_
                rotate_left
                · (intro w' hSw; (try dsimp only at hSw); go_simp; try with_reducible rfl)
                try simp only [Act.put, List.setIfInBounds_toArray, List.set_cons_zero, List.set_cons_succ]
                refine wpAnyH_ready (rs := [2]) (by kernel_rfl) (by simp) ?_
                refine AllReadyH.cons rfl (fun K hK => ?_) AllReadyH.nil
                go_simp
                refine hK.out _ _ ?_ (fun hHeld2 => ?_)
                · exact hr0
                clear hK K hHeld
                have hHeld := hHeld2
                clear hHeld2
                try simp only [Act.put, List.setIfInBounds_toArray, List.set_cons_zero, List.set_cons_succ]
                refine wpAnyH_take (i := 7) (v := ?_) rfl (by kernel_rfl) (by kernel_rfl) (by kernel_rfl) (fun _ _ _ h => h) (Or.inl ⟨by rfl, ?_⟩) (by assumption) ?_
                rotate_left
                · (intro w' hSw; (try dsimp only at hSw); go_simp; try with_reducible rfl)
                try simp only [Act.put, List.setIfInBounds_toArray, List.set_cons_zero, List.set_cons_succ]
                refine wpAnyH_take (i := 8) (v := ?_) rfl (by kernel_rfl) (by kernel_rfl) (by kernel_rfl) (fun _ _ _ h => h) (Or.inl ⟨by rfl, ?_⟩) (by assumption) ?_
                rotate_left
                · (intro w' hSw; (try dsimp only at hSw); go_simp; try with_reducible rfl)
                try simp only [Act.put, List.setIfInBounds_toArray, List.set_cons_zero, List.set_cons_succ]
                refine wpAnyH_ready (rs := [9]) (by kernel_rfl) (by simp) ?_
                refine AllReadyH.cons rfl (fun K hK => ?_) AllReadyH.nil
                go_simp
                refine hK.out _ _ ?_ (fun hHeld2 => ?_)
                · exact (World.cell?_of_block (heap_setCell_other _ _ _ _ (by show wr.heap.size ≠ g; omega))).trans hr0
                clear hK K hHeld hHeld2
                try simp only [Act.put, List.setIfInBounds_toArray, List.set_cons_zero, List.set_cons_succ]
                refine wpAnyH_done (by kernel_rfl) ?_ _
                refine NoPanic.normal ?_
                go_wp2
                try rw [Exit.noGoto_ret]
                go_ret
                exact ⟨_, rfl, HFIN.out.1, have q := HFIN.out.2; ⟨q.os, q.tape, q.output, q.size, q.block⟩⟩
        · have c2' : hi' < r := by omega
          have HX : Hid (firstF full folL r = firstF full (folL.drop (k + 1)) r) := by
            unfold Hid; rw [HF.out, HNX, hin, decide_eq_false c2, Bool.and_false, Bool.and_false, if_neg (by decide)]
          clear HNX hin HF HF0 hXS hnews0 htd e1 e2
          generalize BA S0 = F0 at *
          go_wp2
          exact ⟨⟨k + 1, by omega, by go_num, HX, hbel.alloc hbs _⟩, by simp [RowKit.intOf]; omega⟩
      · have c1' : r < lo := by omega
        have HX : Hid (firstF full folL r = firstF full (folL.drop (k + 1)) r) := by
          unfold Hid; rw [HF.out, HNX, hin, decide_eq_false c1, Bool.false_and, Bool.and_false, if_neg (by decide)]
        clear HNX hin HF HF0 hXS hnews0 htd e1 e2
        generalize BA S0 = F0 at *
        go_wp2
        exact ⟨⟨k + 1, by omega, by go_num, HX, hbel.alloc hbs _⟩, by simp [RowKit.intOf]; omega⟩
    · have hge : ¬ (k : Int) < (nl : Int) := by omega
      obtain rfl : nl = k := by omega
      have HX : Hid (PF = [r]) := by unfold Hid; rw [HF0.out, HF.out, HL.out]; rfl
      have hbs := hbel.size
      clear HF HF0
      go_wp2
      go_ret
      refine ⟨_, rfl, ?_, hbel.alloc hbs _⟩
      rw [HX.out]
      exact IOwn.iv (base := 0) (World.ownsRow_lit (base := 0) (e := 3) (size := 1) wr #[.int .i64 r] 1 (Nat.zero_le _) (by unfold maxLen; omega) rfl)
end Go.Proofs.YtochajmhljipbaaGreatDoor.prp
end

section
/- How a slice of numbers that came in as an argument reads. -/
set_option linter.unusedVariables false
set_option linter.unusedSimpArgs false
namespace Go.Proofs.YtochajmhljipbaaGreatDoor.prp
open Go.ChangeShapes Go.WideShapes Go.ChangeAt Go.RowKit Go.Deep

/-- The argument v reads as the numbers l. -/
def ArgN (W : World) (v : Value) (l : List Int) : Prop := ∃ ao cap, v = .slice ao l.length cap ∧ (l.length = 0 ∨ ∃ b o, ao = some ⟨b, o, none⟩ ∧ ∀ (i : Nat) (r : Int), l[i]? = some r → W.cell? ⟨b, o + i, none⟩ = some (.int .i64 r)) ∧ (∀ r ∈ l, okI r) ∧ l.length ≤ 9223372036854775807
set_option maxRecDepth 100000 in
theorem open_ints {H : Type} {enc : TypeId × Value → H} {W : World} {base : Nat} {v : Value} {d : DataW H} {p : List MemPlace}
    (hv : Value.okWide Tryz.prog W .any base 22 v) (h : DataW.Trod enc Tryz.prog W 0 (fun _ => true) true 22 v d p) :
    ∃ l : List Int, ArgN W v l := by
  obtain ⟨ao, n, cap, rfl⟩ := okWide_slice Tryz.underlying22 hv
  obtain ⟨fuel, hf⟩ := h
  rcases open_slice Tryz.underlying22 hf with ⟨hcs, _⟩ | ⟨a, len, cap', m, k, D, Pl, hcs, _, hl, hm, hmm, hx, hel⟩
  · simp [Value.cells] at hcs
    obtain ⟨rfl, rfl, rfl⟩ := hcs
    exact ⟨[], none, 0, rfl, .inl rfl, fun r h => (by cases h), by simp⟩
  · simp [Value.cells] at hcs
    obtain ⟨rfl, rfl, rfl⟩ := hcs
    simp at hmm
    subst hmm
    have c1 : Tryz.prog.cellsOf 3 = 1 := by kernel_rfl
    have each : ∀ i, i < n → ∃ r : Int, W.cell? (a.add i) = some (.int .i64 r) ∧ okI r := by
      intro i hi
      obtain ⟨cs', h1, h2⟩ := hel i (by omega)
      rw [c1] at h1
      obtain ⟨_, hlen, hcell⟩ := World.cells?_some h1
      match cs', hlen with
      | [v0], _ =>
        have e0 := hcell 0 (by omega)
        rw [Go.Deep.add_add] at e0
        obtain ⟨x0, hv0, hy0, hw0⟩ := DataW.trod_int Tryz.underlying3 h2
        obtain rfl : v0 = .int .i64 x0 := by simpa using hv0
        exact ⟨x0, by simpa using e0, by simpa [okI, Lit.wf, IntKind.min, IntKind.max, IntKind.signed, IntKind.bits] using hw0⟩
    obtain ⟨Rf, hR⟩ := choose_lt each
    unfold maxLen at hm
    refine ⟨(List.range n).map Rf, some a, _, by rw [List.length_map, List.length_range], ?_, fun r hr => ?_, by simp; omega⟩
    rcases Nat.eq_zero_or_pos n with h0 | h0
    · subst h0; exact .inl rfl
    · obtain ⟨b, off, spot⟩ := a
      have hspot : spot = none := by simpa [Addr.add] using World.cell?_spot (hR 0 h0).1
      subst hspot
      refine .inr ⟨b, off, rfl, fun i r hi => ?_⟩
      rw [List.getElem?_map] at hi
      have hil : i < n := by
        rcases Nat.lt_or_ge i n with h' | h'
        · exact h'
        · rw [List.getElem?_eq_none (by simpa using h')] at hi; cases hi
      rw [List.getElem?_range hil] at hi
      obtain rfl : Rf i = r := by simpa using hi
      have q1 := (hR i hil).1
      rw [Addr.add_lit] at q1
      exact q1
    · obtain ⟨i, hi, rfl⟩ := List.mem_map.1 hr
      exact (hR i (List.mem_range.1 hi)).2
end Go.Proofs.YtochajmhljipbaaGreatDoor.prp
end
