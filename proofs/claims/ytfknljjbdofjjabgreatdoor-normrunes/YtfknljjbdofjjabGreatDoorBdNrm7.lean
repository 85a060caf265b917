/- Texts that the proof leans on, one behind the other. -/
import Derived.Test.YtfknljjbdofjjabGreatDoorBdNrm6
import Derived.Test.YtfknljjbdofjjabGreatDoorBdNrm3
import Derived.Deep.QuietTactic
import Derived.BigQuiet

section
/- The document's NFD of items: the walk. -/
set_option linter.unusedVariables false
set_option linter.unusedSimpArgs false
namespace Go.Proofs.YtfknljjbdofjjabGreatDoor.nrm
open Go.Shelf Go.RowKit Go.Lib Go.Sort Go.Proofs
open Go.Proofs.YtfknljjbdofjjabGreatDoor.prp Go.Proofs.YtfknljjbdofjjabGreatDoor.nfd Go.Proofs.YtfknljjbdofjjabGreatDoor.lin Go.Proofs.YtfknljjbdofjjabGreatDoor.dcp

theorem own3_low {w : World} {B B' : Nat} {v : Value} {L : List nfd.I} (h : Own3 w B v L) (hb : B' ≤ B) : Own3 w B' v L := by
  refine ⟨h.1, ?_⟩
  rcases h.2 with h0 | ⟨g, cap, cur, h1, h2, h3⟩
  · exact .inl h0
  · exact .inr ⟨g, cap, cur, h1, Nat.le_trans hb h2, h3⟩
theorem ritems_cells {w : World} {v : Value} {L : List nfd.I} (h : IVI w v L) {ao : Option Addr} {n c : Nat} (e : v = .slice ao n c) : ∀ k, k < L.length → ∃ x1 x2 x3 b o, L[k]? = some (x1, x2, x3) ∧ ao = some ⟨b, o, none⟩ ∧ w.cell? ⟨b, o + k * 3, none⟩ = some (.int .i64 x1) ∧ w.cell? ⟨b, o + k * 3 + 1, none⟩ = some (.int .i64 x2) ∧ w.cell? ⟨b, o + k * 3 + 2, none⟩ = some (.int .i64 x3) := fun k hk => by
  obtain ⟨a, c', e', hcells⟩ := h
  rw [e'] at e
  cases e
  obtain ⟨b, o, e, hc⟩ := hcells (by omega)
  obtain ⟨c1, c2, c3⟩ := hc k _ (List.getElem?_eq_getElem hk)
  exact ⟨_, _, _, b, o, List.getElem?_eq_getElem hk, e, c1, c2, c3⟩
set_option maxHeartbeats 4000000 in
set_option maxRecDepth 1000000 in
theorem ritems_any (u : Nat) (v : Value) (l : List nfd.I) (w : World) (hT : RTabs w u) (hv : IVI w v l) (hl : l.length ≤ 1000) :
    Calls Tryz.prog 40 #[.pointer (some ⟨u, 0, none⟩), v] w fun e w' => ∃ v, e = .returned v ∧ Own3 w' w.heap.size v (nfdI l) ∧ Below w.heap.size w w' := by
  obtain ⟨ao, cap, hve, _⟩ := id hv
  have HC : Hid (∀ k, k < l.length → ∃ x1 x2 x3 b o, l[k]? = some (x1, x2, x3) ∧ ao = some ⟨b, o, none⟩ ∧ w.cell? ⟨b, o + k * 3, none⟩ = some (.int .i64 x1) ∧ w.cell? ⟨b, o + k * 3 + 1, none⟩ = some (.int .i64 x2) ∧ w.cell? ⟨b, o + k * 3 + 2, none⟩ = some (.int .i64 x3)) := ritems_cells hv hve
  subst hve
  have HT : Hid (RTabs w u) := hT
  have HLN : Hid (∀ k, (apL (l.take k)).length ≤ 9000) := fun k => by
    have := apL_len (l.take k)
    rw [List.length_take] at this
    omega
  have HALL : Hid (l.take l.length = l) := List.take_length
  obtain ⟨cf, hcf⟩ : ∃ cf : Int → Int, cf = ccc := ⟨_, rfl⟩
  have HCF : Hid (cf = ccc) := hcf
  have HCM : Hid (∀ r W, RTabs W u → Calls Tryz.prog 57 #[.pointer (some ⟨u, 0, none⟩), .int .i64 r] W fun e w' => e = .returned (.int .i64 (cf r)) ∧ Below W.heap.size W w') := fun r W h => by rw [hcf]; exact rcombining_t u r W h
  clear hv hT hcf
  generalize hnl : l.length = nl at *
  clear hnl
  go_enter Tryz.func40, Tryz.ntmps40
  go_wp2
  go_loopw [5, 15] (fun v i wr => ∃ k : Nat, k ≤ nl ∧ i = .int .i64 k ∧ Hid (Own3 wr w.heap.size v (nfdI (l.take k))) ∧ Hid (Below w.heap.size w wr)) (fun _ i _ => nl - (RowKit.intOf i).toNat)
  case atStart => exact ⟨0, Nat.zero_le _, rfl, Own3.nil _ _, Below.refl _ _⟩
  case round =>
    obtain ⟨k, hk, rfl, HO, HB⟩ := hrel
    by_cases hlt : k < nl
    · have hlt' : (k : Int) < (nl : Int) := by omega
      have hk0 : (0 : Int) ≤ (k : Int) := by omega
      obtain ⟨r, s, e, b, o, hg, rfl, c1, c2, c3⟩ := HC.out k hlt
      have d1 := cell_below HB.out c1
      have d2 := cell_below HB.out c2
      have d3 := cell_below HB.out c3
      have hsz := HB.out.size
      have HAP : Hid (apL (l.take (k + 1)) = apL (l.take k) ++ (fullL r).map (fun q => (q, s, e))) := by
        show _ = _
        unfold apL
        rw [List.take_add_one, hg, List.flatMap_append]
        simp [part3]
      obtain ⟨WR, hWR⟩ : ∃ WR, WR = wr.alloc (.cells #[.int .i64 r, .int .i64 s, .int .i64 e] 40) := ⟨_, rfl⟩
      have bA : Below wr.heap.size wr WR := by rw [hWR]; exact (Below.refl _ wr).alloc (Nat.le_refl _) _
      have nbA : WR.heap[wr.heap.size]? = some (.cells #[.int .i64 r, .int .i64 s, .int .i64 e] 40 (0, 0)) := by rw [hWR]; exact World.alloc_heap_new _ _
      have C := rfull_any u r WR (HT.out.below (HB.out.trans (bA.mono hsz)))
      rw [hWR] at C
      have hfl := full_len r
      have hln := HLN.out k
      generalize hFR : fullL r = FR at *
      clear c1 c2 c3 hg
      go_wp2_with fail
      refine C.mono ?_
      rintro e' w2 ⟨v2, rfl, ho2, b2⟩
      rw [← hWR] at ho2 b2
      have B2 : Below wr.heap.size wr w2 := bA.trans (b2.mono bA.size)
      have HO2 : Hid (Own3 w2 w.heap.size u5 (nfdI (l.take k))) := HO.out.below B2
      have HB2 : Hid (Below w.heap.size w w2) := HB.out.trans (B2.mono hsz)
      have nb2 : w2.heap[wr.heap.size]? = some (.cells #[.int .i64 r, .int .i64 s, .int .i64 e] 40 (0, 0)) := (b2.block _ (Array.getElem?_eq_some_iff.1 nbA).1).trans nbA
      obtain ⟨fa, fc, rfl, hfc⟩ := ho2.iv
      have HFC : Hid (∀ j, j < FR.length → ∃ q fb fo, FR[j]? = some q ∧ fa = some ⟨fb, fo, none⟩ ∧ w2.cell? ⟨fb, fo + j, none⟩ = some (.int .i64 q)) := fun j hj => by
        obtain ⟨b, o, e, hc⟩ := hfc (by omega)
        exact ⟨FR[j], b, o, List.getElem?_eq_getElem hj, e, by rw [hc j hj, List.getD_eq_getElem?_getD, List.getElem?_eq_getElem hj]; rfl⟩
      have HNB : Hid (w2.heap[wr.heap.size]? = some (.cells #[.int .i64 r, .int .i64 s, .int .i64 e] 40 (0, 0))) := nb2
      have HFA : Hid (FR.take FR.length = FR) := List.take_length
      clear C ho2 b2 hfc nb2 nbA bA B2 hWR HO d1 d2 d3
      generalize hfn : FR.length = fn at *
      obtain ⟨ib, hib⟩ : ∃ ib, wr.heap.size = ib := ⟨_, rfl⟩
      have hib2 : ib < w2.heap.size := by rw [hib] at HNB; exact (Array.getElem?_eq_some_iff.1 HNB.out).1
      rw [hib] at HNB ⊢
      clear HB hsz
      go_wp2
      go_loopw [5, 24] (fun v i wr => ∃ j : Nat, j ≤ fn ∧ i = .int .i64 j ∧ Hid (Own3 wr w.heap.size v (ordL kI (apL (l.take k) ++ (FR.take j).map (fun q => (q, s, e))))) ∧ Hid (Below w2.heap.size w2 wr)) (fun _ i _ => fn - (RowKit.intOf i).toNat)
      case atStart => exact ⟨0, Nat.zero_le _, rfl, by show Own3 _ _ _ _; rw [List.take_zero, List.map_nil, List.append_nil]; exact HO2.out, Below.refl _ _⟩
      case round =>
        obtain ⟨j, hj, rfl, HO3, HB3⟩ := hrel
        by_cases hlt2 : j < fn
        · have hlt2' : (j : Int) < (fn : Int) := by omega
          have hj0 : (0 : Int) ≤ (j : Int) := by omega
          obtain ⟨q, fb, fo, hq, rfl, hf3⟩ := HFC.out j hlt2
          have c0 := cell_below HB3.out hf3
          have nb3 : wr.heap[ib]? = some (.cells #[.int .i64 r, .int .i64 s, .int .i64 e] 40 (0, 0)) := (HB3.out.block ib hib2).trans HNB.out
          have e1 := cell_of_row wr ib 1 _ _ _ nb3
          have e2 := cell_of_row wr ib 2 _ _ _ nb3
          simp at e1 e2
          have hib3 : ib < wr.heap.size := (Array.getElem?_eq_some_iff.1 nb3).1
          have HPN : Hid (apL (l.take k) ++ (FR.take (j + 1)).map (fun q => (q, s, e)) = (apL (l.take k) ++ (FR.take j).map (fun q => (q, s, e))) ++ [(q, s, e)]) := by
            show _ = _
            rw [List.take_add_one, hq, List.map_append, List.append_assoc]
            rfl
          have hpl : (apL (l.take k) ++ (FR.take j).map (fun q => (q, s, e))).length ≤ 19000 := by
            rw [List.length_append, List.length_map, List.length_take, hfn]
            omega
          generalize apL (l.take k) ++ (FR.take j).map (fun q => (q, s, e)) = PL at *
          have HOL : Hid ((ordL kI PL).length = PL.length) := len_ordL kI PL
          obtain ⟨n, hn⟩ : ∃ n, (ordL kI PL).length = n := ⟨_, rfl⟩
          have HN : Hid ((ordL kI PL).length = n) := hn
          have hn9 : n ≤ 19000 := by rw [← hn, HOL.out]; exact hpl
          obtain ⟨WY, hWY⟩ : ∃ WY, WY = wr.alloc (.cells #[.int .i64 q, .int .i64 s, .int .i64 e] 40) := ⟨_, rfl⟩
          have bY : Below wr.heap.size wr WY := by rw [hWY]; exact (Below.refl _ wr).alloc (Nat.le_refl _) _
          have nbY : WY.heap[wr.heap.size]? = some (.cells #[.int .i64 q, .int .i64 s, .int .i64 e] 40 (0, 0)) := by rw [hWY]; exact World.alloc_heap_new _ _
          have HBY : Hid (Below w2.heap.size w2 WY) := HB3.out.trans (bY.mono HB3.out.size)
          have HOY : Hid (Own3 WY w.heap.size u5 (ordL kI PL)) := HO3.out.below bY
          have HRT : Hid (∀ W, Below w2.heap.size w2 W → RTabs W u) := fun W h => HT.out.below (HB2.out.trans (h.mono HB2.out.size))
          have C := HCM.out q WY (HRT.out WY HBY.out)
          rw [hWY] at C
          have HKQ : Hid (kI (q, s, e) = cf q) := by show kI (q, s, e) = cf q; rw [HCF.out]; rfl
          have HKK : Hid (∀ x : nfd.I, kI x = cf x.1) := fun x => by rw [HCF.out]; rfl
          clear hq hf3 nb3 hpl
          rcases HO3.out.2 with ⟨hy, h0⟩ | ⟨g, yc, cur, hy, _, _, hnc, hcm, _, _⟩
          · subst hy
            have hOn : ordL kI PL = [] := List.eq_nil_of_length_eq_zero h0
            obtain rfl : n = 0 := by rw [← hn]; exact h0
            clear HO3 h0 hn
            go_wp2_with fail
            refine C.mono ?_
            rintro e' w4 ⟨rfl, b4⟩
            rw [← hWY] at b4
            clear C
            have HB4 : Hid (Below w2.heap.size w2 w4) := HBY.out.trans (b4.mono HBY.out.size)
            have HO4 : Hid (Own3 w4 w.heap.size (Value.slice none 0 0) (ordL kI PL)) := HOY.out.below b4
            have HY4 : Hid (w4.heap[wr.heap.size]? = some (.cells #[.int .i64 q, .int .i64 s, .int .i64 e] 40 (0, 0))) := (b4.block _ (Array.getElem?_eq_some_iff.1 nbY).1).trans nbY
            obtain ⟨yb, hyb⟩ : ∃ yb, wr.heap.size = yb := ⟨_, rfl⟩
            rw [hyb] at HY4 ⊢
            clear b4 nbY bY hWY HBY HOY c0 e1 e2
            have HPUT : Hid (ordL kI (PL ++ [(q, s, e)]) = [(q, s, e)]) := by
              show _ = _
              by_cases hc : 0 < kI (q, s, e)
              · have := ord_put kI PL (q, s, e) 0 (Nat.zero_le _) (fun j g _ h => by rw [hOn] at h; simp at h) (fun g h => by omega) hc
                rw [this, hOn]; rfl
              · have := ord_last kI PL (q, s, e) (by omega)
                rw [this, hOn]; rfl
            clear hOn
            by_cases hcp : cf q > 0
            · go_wp2
              refine wp_loop_rounds 1 ?_
              rw [rounds_succ]
              go_wp2
              refine put_none _ q s e yb w4 HY4.out (fun v' W' _ _ _ _ _ _ _ _ _ _ _ _ ho hb => ?_)
              have hsx := HB4.out.size
              have hsy := HB2.out.size
              have R1 : Hid (Own3 W' w.heap.size v' (ordL kI (apL (l.take k) ++ (FR.take (j + 1)).map (fun q => (q, s, e))))) := by
                show Own3 _ _ _ _
                rw [HPN.out, HPUT.out]
                exact own3_low ho (by omega)
              have R2 : Hid (Below w2.heap.size w2 W') := HB4.out.trans (hb.mono HB4.out.size)
              clear ho hb HPUT
              go_wp2
              go_roundw
              case rel => exact ⟨j + 1, by omega, by go_num, R1, R2⟩
              case measure => simp [RowKit.intOf]; omega
            · go_wp2
              refine put_none _ q s e yb w4 HY4.out (fun v' W' _ _ _ _ _ _ _ _ _ _ _ _ ho hb => ?_)
              have hsx := HB4.out.size
              have hsy := HB2.out.size
              have R1 : Hid (Own3 W' w.heap.size v' (ordL kI (apL (l.take k) ++ (FR.take (j + 1)).map (fun q => (q, s, e))))) := by
                show Own3 _ _ _ _
                rw [HPN.out, HPUT.out]
                exact own3_low ho (by omega)
              have R2 : Hid (Below w2.heap.size w2 W') := HB4.out.trans (hb.mono HB4.out.size)
              clear ho hb HPUT
              go_wp2
              go_roundw
              case rel => exact ⟨j + 1, by omega, by go_num, R1, R2⟩
              case measure => simp [RowKit.intOf]; omega
          · rw [hn] at hy hnc
            subst hy
            unfold maxLen at hcm
            clear HO3
            go_wp2_with fail
            refine C.mono ?_
            rintro e' w4 ⟨rfl, b4⟩
            rw [← hWY] at b4
            clear C
            have HB4 : Hid (Below w2.heap.size w2 w4) := HBY.out.trans (b4.mono HBY.out.size)
            have HO4 : Hid (Own3 w4 w.heap.size (Value.slice (some ⟨g, 0, none⟩) n yc) (ordL kI PL)) := HOY.out.below b4
            have HY4 : Hid (w4.heap[wr.heap.size]? = some (.cells #[.int .i64 q, .int .i64 s, .int .i64 e] 40 (0, 0))) := (b4.block _ (Array.getElem?_eq_some_iff.1 nbY).1).trans nbY
            obtain ⟨yb, hyb⟩ : ∃ yb, wr.heap.size = yb := ⟨_, rfl⟩
            rw [hyb] at HY4 ⊢
            clear b4 nbY bY hWY HBY HOY c0 e1 e2
            by_cases hcp : cf q > 0
            · go_wp2
              go_loopw [11] (fun a wr => ∃ m : Nat, m ≤ n ∧ a = .int .i64 m ∧ Hid (∀ j g, m ≤ j → (ordL kI PL)[j]? = some g → kI (q, s, e) < kI g) ∧ Hid (Below w4.heap.size w4 wr)) (fun a _ => (RowKit.intOf a).toNat)
              case atStart => exact ⟨n, Nat.le_refl _, rfl, (fun j g h1 h2 => by rw [List.getElem?_eq_none (by rw [HN.out]; exact h1)] at h2; cases h2), Below.refl _ _⟩
              case round =>
                obtain ⟨m, hm, rfl, HG, HBm⟩ := hrel
                have HB5 : Hid (Below w2.heap.size w2 wr) := HB4.out.trans (HBm.out.mono HB4.out.size)
                have HO5 : Hid (Own3 wr w.heap.size (.slice (some ⟨g, 0, none⟩) n yc) (ordL kI PL)) := HO4.out.below HBm.out
                have HY5 : Hid (wr.heap[yb]? = some (.cells #[.int .i64 q, .int .i64 s, .int .i64 e] 40 (0, 0))) := (HBm.out.block _ (Array.getElem?_eq_some_iff.1 HY4.out).1).trans HY4.out
                rcases Nat.eq_zero_or_pos m with h0 | h0
                · subst h0
                  have HPUT : Hid (ordL kI (PL ++ [(q, s, e)]) = (ordL kI PL).take 0 ++ (q, s, e) :: (ordL kI PL).drop 0) := ord_put kI PL (q, s, e) 0 (Nat.zero_le _) HG.out (fun g h => by omega) (by rw [HKQ.out]; exact hcp)
                  clear HG
                  go_wp2
                  refine put_some _ q s e (ordL kI PL) g n yc yb 0 w.heap.size wr HO5.out HN.out (Nat.zero_le _) hn9 hnc hcm HY5.out (fun v' W' _ _ _ _ _ _ _ _ _ _ _ _ ho hb => ?_)
                  have hsx := HB5.out.size
                  have hsy := HB2.out.size
                  have R1 : Hid (Own3 W' w.heap.size v' (ordL kI (apL (l.take k) ++ (FR.take (j + 1)).map (fun q => (q, s, e))))) := by
                    show Own3 _ _ _ _
                    rw [HPN.out, HPUT.out]
                    exact own3_low ho (by omega)
                  have R2 : Hid (Below w2.heap.size w2 W') := HB5.out.trans (hb.mono HB5.out.size)
                  clear ho hb HPUT
                  go_wp2
                  go_roundw
                  case rel => exact ⟨j + 1, by omega, by go_num, R1, R2⟩
                  case measure => simp [RowKit.intOf]; omega
                · obtain ⟨m', rfl⟩ : ∃ m', m = m' + 1 := ⟨m - 1, by omega⟩
                  obtain ⟨y1, y2, y3, b', o', hgm, he, c1, c2, c3⟩ := ritems_cells HO5.out.iv rfl m' (by rw [HN.out]; omega)
                  cases he
                  rw [Nat.zero_add] at c1
                  have C := HCM.out y1 wr (HRT.out wr HB5.out)
                  have hm1 : ((m' + 1 : Nat) : Int) > 0 := by omega
                  have hm2 : (m' : Int) < (n : Int) := by omega
                  have hm3 : (0 : Int) ≤ (m' : Int) := by omega
                  have hm4 : ((m' + 1 : Nat) : Int) - 1 = (m' : Int) := by omega
                  have hm5 : IntKind.i64.wrap (m' : Int) = (m' : Int) := by rw [IntKind.wrap_i64]; omega
                  have HGM : Hid ((ordL kI PL)[m']? = some (y1, y2, y3)) := hgm
                  clear hgm c2 c3
                  go_wp2_with fail
                  refine C.mono ?_
                  rintro e' w6 ⟨rfl, b6⟩
                  clear C
                  have HB6 : Hid (Below w2.heap.size w2 w6) := HB5.out.trans (b6.mono HB5.out.size)
                  have HBm6 : Hid (Below w4.heap.size w4 w6) := HBm.out.trans (b6.mono HBm.out.size)
                  have HO6 : Hid (Own3 w6 w.heap.size (.slice (some ⟨g, 0, none⟩) n yc) (ordL kI PL)) := HO5.out.below b6
                  have HY6 : Hid (w6.heap[yb]? = some (.cells #[.int .i64 q, .int .i64 s, .int .i64 e] 40 (0, 0))) := (b6.block _ (Array.getElem?_eq_some_iff.1 HY5.out).1).trans HY5.out
                  clear b6 HB5 HO5 HY5 HBm c1
                  by_cases hgt : cf y1 > cf q
                  · have HG2 : Hid (∀ j g, m' ≤ j → (ordL kI PL)[j]? = some g → kI (q, s, e) < kI g) := fun j g h1 h2 => by
                      rcases Nat.lt_or_ge j (m' + 1) with h | h
                      · obtain rfl : j = m' := by omega
                        rw [HGM.out] at h2
                        cases h2
                        rw [HKQ.out, HKK.out]
                        exact hgt
                      · exact HG.out j g h h2
                    clear HG HGM
                    go_wp2
                    go_roundw
                    case rel => exact ⟨m', by omega, by go_num, HG2, HBm6⟩
                    case measure => simp [RowKit.intOf]
                  · have HPUT : Hid (ordL kI (PL ++ [(q, s, e)]) = (ordL kI PL).take (m' + 1) ++ (q, s, e) :: (ordL kI PL).drop (m' + 1)) := ord_put kI PL (q, s, e) (m' + 1) (by rw [HN.out]; exact hm) HG.out (fun g _ h => by
                      rw [Nat.add_sub_cancel, HGM.out] at h
                      cases h
                      rw [HKQ.out, HKK.out]
                      exact hgt) (by rw [HKQ.out]; exact hcp)
                    clear HG HGM
                    go_wp2
                    refine put_some _ q s e (ordL kI PL) g n yc yb (m' + 1) w.heap.size w6 HO6.out HN.out hm hn9 hnc hcm HY6.out (fun v' W' _ _ _ _ _ _ _ _ _ _ _ _ ho hb => ?_)
                    have hsx := HB6.out.size
                    have hsy := HB2.out.size
                    have R1 : Hid (Own3 W' w.heap.size v' (ordL kI (apL (l.take k) ++ (FR.take (j + 1)).map (fun q => (q, s, e))))) := by
                      show Own3 _ _ _ _
                      rw [HPN.out, HPUT.out]
                      exact own3_low ho (by omega)
                    have R2 : Hid (Below w2.heap.size w2 W') := HB6.out.trans (hb.mono HB6.out.size)
                    clear ho hb HPUT
                    go_wp2
                    go_roundw
                    case rel => exact ⟨j + 1, by omega, by go_num, R1, R2⟩
                    case measure => simp [RowKit.intOf]; omega
            · have HPUT : Hid (ordL kI (PL ++ [(q, s, e)]) = (ordL kI PL).take n ++ (q, s, e) :: (ordL kI PL).drop n) := by
                have := ord_last kI PL (q, s, e) (by rw [HKQ.out]; omega)
                rw [HN.out] at this
                exact this
              go_wp2
              refine put_some _ q s e (ordL kI PL) g n yc yb n w.heap.size w4 HO4.out HN.out (Nat.le_refl _) hn9 hnc hcm HY4.out (fun v' W' _ _ _ _ _ _ _ _ _ _ _ _ ho hb => ?_)
              have hsx := HB4.out.size
              have hsy := HB2.out.size
              have R1 : Hid (Own3 W' w.heap.size v' (ordL kI (apL (l.take k) ++ (FR.take (j + 1)).map (fun q => (q, s, e))))) := by
                show Own3 _ _ _ _
                rw [HPN.out, HPUT.out]
                exact own3_low ho (by omega)
              have R2 : Hid (Below w2.heap.size w2 W') := HB4.out.trans (hb.mono HB4.out.size)
              clear ho hb HPUT
              go_wp2
              go_roundw
              case rel => exact ⟨j + 1, by omega, by go_num, R1, R2⟩
              case measure => simp [RowKit.intOf]; omega
        · have hlt2' : ¬ (j : Int) < (fn : Int) := by omega
          obtain rfl : j = fn := by omega
          have R1 : Hid (Own3 wr w.heap.size u5 (nfdI (l.take (k + 1)))) := by
            show Own3 _ _ _ _
            unfold nfdI
            rw [HAP.out, ← HFA.out]
            exact HO3.out
          have R2 : Hid (Below w.heap.size w wr) := HB2.out.trans (HB3.out.mono HB2.out.size)
          clear HO3 HB3
          go_wp2
          go_roundw
          case rel => exact ⟨k + 1, by omega, by go_num, R1, R2⟩
          case measure => simp [RowKit.intOf]; omega
    · have hlt' : ¬ (k : Int) < (nl : Int) := by omega
      obtain rfl : k = nl := by omega
      have R1 : Hid (Own3 wr w.heap.size u5 (nfdI l)) := by
        have := HO.out
        rw [HALL.out] at this
        exact this
      clear HO
      go_wp2
      go_ret
      exact ⟨_, rfl, R1.out, HB.out⟩
end Go.Proofs.YtfknljjbdofjjabGreatDoor.nrm
end

section
/- The document's NFD of numbers, and whether they are so; NormRunes: the walk. -/
set_option linter.unusedVariables false
set_option linter.unusedSimpArgs false
namespace Go.Proofs.YtfknljjbdofjjabGreatDoor.nrm
open Go.Shelf Go.RowKit Go.Lib Go.Sort Go.Proofs
open Go.Proofs.YtfknljjbdofjjabGreatDoor.prp Go.Proofs.YtfknljjbdofjjabGreatDoor.nfd Go.Proofs.YtfknljjbdofjjabGreatDoor.lin Go.Proofs.YtfknljjbdofjjabGreatDoor.dcp

set_option maxHeartbeats 4000000 in
set_option maxRecDepth 1000000 in
theorem rrunes_any (u : Nat) (v : Value) (l : List Int) (w : World) (hT : RTabs w u) (hv : IV w v l) (hl : l.length ≤ 1000) :
    Calls Tryz.prog 14 #[.pointer (some ⟨u, 0, none⟩), v] w fun e w' => ∃ v, e = .returned v ∧ IOwn w' w.heap.size v (nfdR l) ∧ Below w.heap.size w w' := by
  obtain ⟨i0, hi, hz0, hz1, hz2⟩ := rng.info_parts infoItem
  obtain ⟨j0, ji, jz0, jz1, jz2⟩ := rng.info_parts infoInt
  obtain ⟨ao, cap, rfl, hcells⟩ := hv
  have HT : Hid (RTabs w u) := hT
  obtain ⟨n, hn⟩ : ∃ n, l.length = n := ⟨_, rfl⟩
  have HC : Hid (∀ (k : Nat), k < n → ∃ r b o, ao = some ⟨b, o, none⟩ ∧ w.cell? ⟨b, o + k, none⟩ = some (.int .i64 r) ∧ l.take (k + 1) = l.take k ++ [r]) := fun k hk => by
    obtain ⟨b, o, e, hc⟩ := hcells (by omega)
    exact ⟨l[k], b, o, e, by rw [hc k (by omega), List.getD_eq_getElem?_getD, List.getElem?_eq_getElem (by omega)]; rfl, List.take_succ_eq_append_getElem (by omega)⟩
  have HI : Hid (∀ (W : World) (v : Value), RTabs W u → IVI W v (l.map p0) → Calls Tryz.prog 40 #[.pointer (some ⟨u, 0, none⟩), v] W fun e w' => ∃ v, e = .returned v ∧ Own3 w' W.heap.size v (nfdI (l.map p0)) ∧ Below W.heap.size W w') := fun W v h1 h2 => ritems_any u v (l.map p0) W h1 h2 (by rw [List.length_map]; exact hl)
  have HR : Hid ((nfdI (l.map p0)).map (·.1) = nfdR l) := nfdR_items l
  have hnl : (nfdI (l.map p0)).length ≤ 900000 := by have := nfdI_len (l.map p0); rw [List.length_map] at this; omega
  have HLT : Hid (l.take n = l) := by rw [← hn]; exact List.take_length
  have HLL : Hid (l.length = n) := hn
  rw [hn] at hl ⊢
  rw [← HR.out]
  clear hcells hT hn
  go_enter Tryz.func14, Tryz.ntmps14
  go_wp2
  go_loopw [5, 13] (fun v i wr => ∃ k : Nat, k ≤ n ∧ i = .int .i64 k ∧ Hid (Own3 wr w.heap.size v ((l.take k).map p0)) ∧ Hid (Below w.heap.size w wr)) (fun _ i _ => n - (RowKit.intOf i).toNat)
  case atStart => exact ⟨0, Nat.zero_le _, rfl, Own3.nil _ _, Below.refl _ _⟩
  case round =>
    obtain ⟨k, hk, rfl, HP, HB⟩ := hrel
    have hkl : ((l.take k).map p0).length = k := by rw [List.length_map, List.length_take, HLL.out]; omega
    obtain ⟨pa, pc, hp⟩ := own_slice HP.out
    rw [hkl] at hp
    subst hp
    by_cases hlt : k < n
    · have hlt' : (k : Int) < (n : Int) := by omega
      obtain ⟨r, b, o, rfl, hc, htk⟩ := HC.out k hlt
      have hc1 := cell_below HB.out hc
      have hsz := HB.out.size
      have HTK : Hid ((l.take (k + 1)).map p0 = (l.take k).map p0 ++ [(r, 0, 0)]) := by show _ = _; rw [htk, List.map_append]; rfl
      have HO4 : Hid (wr.ownsRow w.heap.size 40 3 (.slice pa k pc) k (fl ((l.take k).map p0))) := by have h9 := HP.out; unfold Own3 at h9; rw [hkl] at h9; exact h9
      have HKL : Hid (((l.take k).map p0).length = k) := hkl
      clear htk hc HP hkl
      go_wp2_with (at_builtin; refine wpList_append_own _ rfl _ _ 37 rfl w.heap.size 40 i0 (.agg #[.int .i64 0, .int .i64 0, .int .i64 0]) 3 24 Tryz.underlying37 hi hz0 hz1 hz2 rfl (by decide) _ _ _ rfl (HO4.out.alloc _) ⟨wr.heap.size, 0, none⟩ 1 1 [.int .i64 r, .int .i64 0, .int .i64 0] rfl rfl (one3_new _ _ _ _ _) ?c2 ?c3 ?c4 ?c5 ?_)
      case c2 => first | (intro u hu; simp at hu; rcases hu with rfl | rfl | rfl <;> rfl) | (refine ⟨?_, ?_, ?_⟩ <;> rfl) | (intro u hu; simp at hu; rcases hu with rfl | rfl <;> rfl) | simp [Value.oneCell']
      case c3 => unfold maxLen; omega
      case c4 => omega
      case c5 => first | omega | (simp; omega)
      intro v5 w5 hown5 hgrow5 _
      have R4 : Hid (Below w.heap.size w w5) := Below.grown (HB.out.alloc hsz _) hgrow5 (by simp; omega) (fun k' e => (HO4.out.lt k' e).1)
      have R1 : Hid (Own3 w5 w.heap.size v5 ((l.take (k + 1)).map p0)) := by
        show Own3 _ _ _ _
        unfold Own3
        rw [HTK.out, fl_append, fl_three, List.length_append, HKL.out, List.map_take]
        exact hown5
      clear hown5 hgrow5 HO4 HB
      go_wp2
      go_roundw
      case rel => exact ⟨k + 1, by omega, by go_num, R1, R4⟩
      case measure => simp [RowKit.intOf]; omega
    · obtain rfl : k = n := by omega
      have hlt' : ¬ (k : Int) < (k : Int) := by omega
      have hiv := HP.out.iv
      rw [HLT.out] at hiv
      clear hkl
      have C := HI.out wr _ (HT.out.below HB.out) hiv
      have HBW : Hid (Below w.heap.size w wr) := HB.out
      clear HP hiv HB HI
      obtain ⟨NF, hNF⟩ : ∃ NF, nfdI (l.map p0) = NF := ⟨_, rfl⟩
      have HNF : Hid (nfdI (l.map p0) = NF) := hNF
      rw [hNF] at C hnl
      clear hNF
      go_wp2_with fail
      refine C.mono ?_
      rintro e w3 ⟨v3, rfl, ho3, b3⟩
      clear C
      obtain ⟨va, vc, rfl, hcl⟩ := ho3.iv
      obtain ⟨m, hm⟩ : ∃ m, NF.length = m := ⟨_, rfl⟩
      have HC3 : Hid (∀ (j : Nat), j < m → ∃ r s e b o, va = some ⟨b, o, none⟩ ∧ w3.cell? ⟨b, o + j * 3, none⟩ = some (.int .i64 r) ∧ w3.cell? ⟨b, o + j * 3 + 1, none⟩ = some (.int .i64 s) ∧ w3.cell? ⟨b, o + j * 3 + 2, none⟩ = some (.int .i64 e) ∧ (NF.map (·.1)).take (j + 1) = (NF.map (·.1)).take j ++ [r]) := fun j hj => by
        obtain ⟨b, o, e, hc⟩ := hcl (by omega)
        obtain ⟨x, hx⟩ : ∃ x, NF[j]? = some x := ⟨_, List.getElem?_eq_getElem (by omega)⟩
        obtain ⟨c1, c2, c3⟩ := hc j x hx
        exact ⟨_, _, _, b, o, e, c1, c2, c3, by rw [List.take_add_one, List.getElem?_map, hx]; rfl⟩
      have HB3 : Hid (Below w.heap.size w w3) := HBW.out.trans (b3.mono HBW.out.size)
      have HML : Hid (NF.length = m) := hm
      rw [hm] at hnl ⊢
      have hb3 := HB3.out.size
      clear ho3 b3 hcl hm HBW
      go_wp2
      go_loopw [8, 27] (fun v i wr => ∃ j : Nat, j ≤ m ∧ i = .int .i64 j ∧ Hid (IOwn wr w3.heap.size v ((NF.map (·.1)).take j)) ∧ Hid (Below w3.heap.size w3 wr)) (fun _ i _ => m - (RowKit.intOf i).toNat)
      case atStart => exact ⟨0, Nat.zero_le _, rfl, World.ownsRow_nil _ _ _ _, Below.refl _ _⟩
      case round =>
        obtain ⟨j, hj, rfl, HO, HB⟩ := hrel
        by_cases hlt2 : j < m
        · have hlt2' : (j : Int) < (m : Int) := by omega
          obtain ⟨r, s, e, b, o, rfl, c1, c2, c3, htk⟩ := HC3.out j hlt2
          have d1 := cell_below HB.out c1
          have d2 := cell_below HB.out c2
          have d3 := cell_below HB.out c3
          have HTK : Hid ((NF.map (·.1)).take (j + 1) = (NF.map (·.1)).take j ++ [r]) := htk
          have hsz := HB.out.size
          have hjl : ((NF.map (·.1)).take j).length = j := by rw [List.length_take, List.length_map, HML.out]; omega
          obtain ⟨ya, yc, hy⟩ := own_slice HO.out
          have HO2 : Hid ((wr.alloc (.cells #[.int .i64 r, .int .i64 s, .int .i64 e] 40)).ownsRow w3.heap.size 3 1 (.slice ya j yc) j (((NF.map (·.1)).take j).map (Value.int .i64))) := by
            have := own_below HO.out ((Below.refl _ wr).alloc (Nat.le_refl _) (.cells #[.int .i64 r, .int .i64 s, .int .i64 e] 40))
            rw [hy, hjl] at this
            exact this
          subst hy
          rw [hjl]
          clear c1 c2 c3 htk HO
          go_wp2_with (at_builtin; refine wpList_append_own _ rfl _ _ 22 rfl w3.heap.size 3 j0 (.int .i64 0) 1 8 Tryz.underlying22 ji jz0 jz1 jz2 rfl (by decide) _ _ _ rfl (HO2.out.alloc _) ⟨wr.heap.size + 1, 0, none⟩ 1 1 [.int .i64 r] rfl rfl ?c1 ?c2 ?c3 ?c4 ?c5 ?_)
          try (case c1 => first | exact cell_one_new _ _ _ | (have := cell_one_new (wr.alloc (.cells #[.int .i64 r, .int .i64 s, .int .i64 e] 40)) (.int .i64 r) 3; simpa using this))
          case c2 => first | (intro u hu; simp at hu; subst hu; rfl) | simp [Value.oneCell']
          case c3 => unfold maxLen; omega
          case c4 => omega
          case c5 => first | omega | (simp; omega)
          intro v' w5 hown5 hgrow _
          have R2 : Hid (Below w3.heap.size w3 w5) := Below.grown ((HB.out.alloc hsz _).alloc (by simp; omega) _) hgrow (by simp; omega) (fun k e => (HO2.out.lt k e).1)
          have R1 : Hid (IOwn w5 w3.heap.size v' ((NF.map (·.1)).take (j + 1))) := by
            show IOwn _ _ _ _
            unfold IOwn
            rw [HTK.out, List.length_append, List.length_singleton, List.map_append, hjl]
            simpa using hown5
          clear hown5 hgrow HO2 HB
          go_wp2
          go_roundw
          case rel => exact ⟨j + 1, by omega, by go_num, R1, R2⟩
          case measure => simp [RowKit.intOf]; omega
        · obtain rfl : j = m := by omega
          have hlt2' : ¬ (j : Int) < (j : Int) := by omega
          have hall : (NF.map (·.1)).take j = NF.map (·.1) := List.take_of_length_le (by rw [List.length_map, HML.out]; exact Nat.le_refl _)
          obtain ⟨ya, yc, hy⟩ := own_slice HO.out
          have R1 : Hid (IOwn wr w.heap.size (.slice ya ((NF.map (·.1)).take j).length yc) (NF.map (·.1))) := by
            have h1 := HO.out
            rw [hy] at h1
            rw [hall] at h1 ⊢
            exact own_lower h1 hb3
          have R2 : Hid (Below w.heap.size w wr) := HB3.out.trans (HB.out.mono hb3)
          subst hy
          clear HO hall
          generalize ((NF.map (·.1)).take j).length = tl at *
          go_wp2
          go_ret
          rw [HNF.out]
          exact ⟨_, rfl, R1.out, R2.out⟩
/-- slices.Equal of numbers. -/
theorem ieq_any (v1 v2 : Value) (xs ys : List Int) (w : World) (h1 : IV w v1 xs) (h2 : IV w v2 ys) (hx : xs.length ≤ 1000000) (hy : ys.length ≤ 1000000) :
    Calls Tryz.prog 12 #[v1, v2] w fun e w' => e = .returned (.bool (xs == ys)) ∧ Below w.heap.size w w' := by
  obtain ⟨a1, c1, rfl, k1⟩ := h1
  obtain ⟨a2, c2, rfl, k2⟩ := h2
  rcases Nat.eq_zero_or_pos xs.length with h0 | h0
  · have e0 := List.eq_nil_of_length_eq_zero h0
    subst e0
    refine (Tryz.slices_Equal_int_empty a1 a2 c1 ys.length c2 w (by omega)).mono ?_
    rintro e w' ⟨rfl, hw⟩
    rw [hw]
    refine ⟨?_, Below.refl _ _⟩
    cases ys <;> simp
  · obtain ⟨b1, o1, rfl, d1⟩ := k1 h0
    rcases Nat.eq_zero_or_pos ys.length with g0 | g0
    · have e0 := List.eq_nil_of_length_eq_zero g0
      subst e0
      have hne : ((xs.length : Int) != 0) = true := by simp; intro h; rw [h] at h0; simp at h0
      have hne2 : (xs == ([] : List Int)) = false := by cases xs with
        | nil => simp at h0
        | cons a l => rfl
      rw [hne2]
      generalize xs.length = n at *
      clear k2 d1
      go_enter Tryz.func12, Tryz.ntmps12
      go_wp2
      go_ret
      exact ⟨rfl, Below.refl _ _⟩
    · obtain ⟨b2, o2, rfl, d2⟩ := k2 g0
      refine (Tryz.slices_Equal_int b1 o1 xs.length c1 b2 o2 ys.length c2 xs ys w (Nat.le_refl _) (Nat.le_refl _) (by omega) (by omega) d1 d2).mono ?_
      rintro e w' ⟨rfl, q, rfl⟩
      exact ⟨by rw [List.take_length, List.take_length], ⟨rfl, rfl, rfl, Nat.le_refl _, fun _ _ => rfl⟩⟩
set_option maxRecDepth 1000000 in
theorem is_any (t : Nat) (v : Value) (l : List Int) (w : World) (hT : Tabs w t) (hv : IV w v l) (hok : ∀ x ∈ l, okI x) (hl : l.length ≤ 1000) :
    Calls Tryz.prog 15 #[.pointer (some ⟨t, 0, none⟩), v] w fun e w' => e = .returned (.bool (nfdR l == l)) ∧ Below w.heap.size w w' := by
  have C := made_t t w hT
  have HR : Hid (∀ W, Below w.heap.size w W → Calls Tryz.prog 13 #[.pointer (some ⟨t, 0, none⟩), v] W fun e w' => ∃ v, e = .returned v ∧ IOwn w' W.heap.size v (nfdR l) ∧ Below W.heap.size W w') := fun W hb => runes_any t v l W (hT.below hb) (hv.below hb) hok (by omega)
  have HV : Hid (IV w v l) := hv
  have hle := nfdR_le l
  obtain ⟨a, c, rfl, _⟩ := hv
  obtain ⟨n, hn⟩ : ∃ n, l.length = n := ⟨_, rfl⟩
  have HN : Hid (l.length = n) := hn
  rw [hn] at HV HR hl hle ⊢
  obtain ⟨bb, hbb⟩ : ∃ bb, (nfdR l == l) = bb := ⟨_, rfl⟩
  have HBB : Hid ((nfdR l == l) = bb) := hbb
  rw [hbb]
  clear hT hn hbb
  go_enter Tryz.func15, Tryz.ntmps15
  go_wp2_with fail
  refine C.mono ?_
  rintro e w1 ⟨rfl, b1⟩
  clear C
  have C := HR.out w1 b1
  have HB1 : Hid (Below w.heap.size w w1) := b1
  clear b1 HR
  go_wp2_with fail
  refine C.mono ?_
  rintro e w2 ⟨v2, rfl, ho, b2⟩
  clear C
  have HB2 : Hid (Below w.heap.size w w2) := HB1.out.trans (b2.mono HB1.out.size)
  have D := ieq_any v2 (.slice a n c) (nfdR l) l w2 ho.iv (HV.out.below HB2.out) (by omega) (by rw [HN.out]; omega)
  rw [HBB.out] at D
  obtain ⟨a2, c2, hv2⟩ := own_slice ho
  subst hv2
  generalize (nfdR l).length = nn at *
  clear ho b2
  go_wp2_with fail
  refine D.mono ?_
  rintro e w3 ⟨rfl, b3⟩
  have R : Hid (Below w.heap.size w w3) := HB2.out.trans (b3.mono HB2.out.size)
  clear D b3
  go_wp2
  go_ret
  exact ⟨rfl, R.out⟩
theorem list_eq_of {xs ys : List Int} (hl : xs.length = ys.length) (h : ∀ (j : Nat) (r s : Int), xs[j]? = some r → ys[j]? = some s → r = s) : xs = ys := by
  apply List.ext_getElem hl
  intro j h1 h2
  exact h j _ _ (List.getElem?_eq_getElem h1) (List.getElem?_eq_getElem h2)
set_option maxHeartbeats 1000000 in
set_option maxRecDepth 1000000 in
theorem ris_any (u : Nat) (v : Value) (l : List Int) (w : World) (hT : RTabs w u) (hv : IV w v l) (hl : l.length ≤ 1000) :
    Calls Tryz.prog 16 #[.pointer (some ⟨u, 0, none⟩), v] w fun e w' => e = .returned (.bool (nfdR l == l)) ∧ Below w.heap.size w w' := by
  have C := rrunes_any u v l w hT hv hl
  have HV : Hid (IV w v l) := hv
  have hle := nfdR_le l
  obtain ⟨M, hM⟩ : ∃ M, nfdR l = M := ⟨_, rfl⟩
  rw [hM] at C hle ⊢
  clear hM
  obtain ⟨a, c, rfl, _⟩ := hv
  obtain ⟨n, hn⟩ : ∃ n, l.length = n := ⟨_, rfl⟩
  have HN : Hid (l.length = n) := hn
  rw [hn] at HV hl hle C ⊢
  clear hT hn
  go_enter Tryz.func16, Tryz.ntmps16
  go_wp2_with fail
  refine C.mono ?_
  rintro e w1 ⟨v1, rfl, ho, b1⟩
  clear C
  have HB1 : Hid (Below w.heap.size w w1) := b1
  obtain ⟨a1, c1, rfl, hcl⟩ := ho.iv
  have HM : Hid (∀ j, j < M.length → ∃ r b o, M[j]? = some r ∧ a1 = some ⟨b, o, none⟩ ∧ w1.cell? ⟨b, o + j, none⟩ = some (.int .i64 r)) := fun j hj => by
    obtain ⟨b, o, e, hc⟩ := hcl (by omega)
    exact ⟨_, b, o, List.getElem?_eq_getElem hj, e, by rw [hc j hj, List.getD_eq_getElem?_getD, List.getElem?_eq_getElem hj]; rfl⟩
  have HL : Hid (∀ j, j < n → ∃ r b o, l[j]? = some r ∧ a = some ⟨b, o, none⟩ ∧ w1.cell? ⟨b, o + j, none⟩ = some (.int .i64 r)) := fun j hj => by
    obtain ⟨a', c', e, hc2⟩ := HV.out.below HB1.out
    cases e
    have hj' : j < l.length := by rw [HN.out]; exact hj
    obtain ⟨b, o, e, hc⟩ := hc2 (by omega)
    exact ⟨_, b, o, List.getElem?_eq_getElem hj', e, by rw [hc j hj', List.getD_eq_getElem?_getD, List.getElem?_eq_getElem hj']; rfl⟩
  obtain ⟨m, hm⟩ : ∃ m, M.length = m := ⟨_, rfl⟩
  have HML : Hid (M.length = m) := hm
  rw [hm] at hle HM ⊢
  clear ho hcl b1 HV hm
  by_cases hmn : m = n
  · subst hmn
    have hnn : ((m : Int) != (m : Int)) = false := by simp
    go_wp2
    go_loopw [17] (fun i wr => ∃ k : Nat, k ≤ m ∧ i = .int .i64 k ∧ Hid (∀ j r s, j < k → M[j]? = some r → l[j]? = some s → r = s) ∧ ∃ q, wr = w1.drewN q) (fun i _ => m - (RowKit.intOf i).toNat)
    case atStart => exact ⟨0, Nat.zero_le _, rfl, fun j r s h => by omega, 0, rfl⟩
    case round =>
      obtain ⟨k, hk, rfl, HS, q, rfl⟩ := hrel
      by_cases hlt : k < m
      · have hlt' : (k : Int) < (m : Int) := by omega
        obtain ⟨r, b1, o1, hr, rfl, p1⟩ := HM.out k hlt
        obtain ⟨s, b2, o2, hs, rfl, p2⟩ := HL.out k hlt
        have HR : Hid (M[k]? = some r) := hr
        have HSS : Hid (l[k]? = some s) := hs
        clear hr hs
        by_cases hrs : s = r
        · subst hrs
          have HS2 : Hid (∀ j r s, j < k + 1 → M[j]? = some r → l[j]? = some s → r = s) := fun j r s hj h1 h2 => by
            rcases Nat.lt_or_ge j k with h | h
            · exact HS.out j r s h h1 h2
            · obtain rfl : j = k := by omega
              rw [HR.out] at h1
              rw [HSS.out] at h2
              cases h1
              cases h2
              rfl
          have hb : (s != s) = false := by simp
          clear HS HR HSS
          go_wp2
          go_quiet (fail)
          go_wp2
          go_roundw
          case rel => exact ⟨k + 1, by omega, by go_num, HS2, _, rfl⟩
          case measure => simp [RowKit.intOf]; omega
        · have hb : (s != r) = true := by simpa using hrs
          have hbf : (M == l) = false := by
            rw [beq_eq_false_iff_ne]
            intro h
            have h1 := HR.out
            rw [h, HSS.out] at h1
            cases h1
            exact hrs rfl
          clear HS HR HSS
          go_wp2
          go_quiet (fail)
          go_wp2
          go_ret
          exact ⟨by first | rfl | (rw [hbf]; rfl), Go.Proofs.YtfknljjbdofjjabGreatDoor.rng.below_drewN (Go.Proofs.YtfknljjbdofjjabGreatDoor.rng.below_drewN HB1.out _) _⟩
      · have hlt' : ¬ (k : Int) < (m : Int) := by omega
        have hbt : (M == l) = true := by
          rw [beq_iff_eq]
          exact list_eq_of (by rw [HML.out, HN.out]) (fun j r s h1 h2 => HS.out j r s (by have := (List.getElem?_eq_some_iff.1 h1).1; rw [HML.out] at this; omega) h1 h2)
        go_wp2
        go_ret
        exact ⟨by first | rfl | (rw [hbt]; rfl), Go.Proofs.YtfknljjbdofjjabGreatDoor.rng.below_drewN HB1.out _⟩
  · have hnn : ((m : Int) != (n : Int)) = true := by simp; omega
    have hbf : (M == l) = false := by
      rw [beq_eq_false_iff_ne]
      intro h
      have h1 := HML.out
      rw [h, HN.out] at h1
      exact hmn h1.symm
    go_wp2
    go_ret
    exact ⟨by first | rfl | (rw [hbf]; rfl), HB1.out⟩
set_option maxHeartbeats 2000000 in
set_option maxRecDepth 1000000 in
theorem runes_walk (v : Value) (l : List Int) (w : World) (h : ArgC w v l) (E : Env w) : Calls Tryz.prog 3 #[v] w fun e w' => e = .returned (.bool true) ∧ Below w.heap.size w w' := by
  have HE : Hid (Env w) := E
  have HA : Hid (ArgC w v l) := h
  have C := load_any w E
  obtain ⟨ao, cap, rfl, hcells, hok, hcap, hmax, hnil⟩ := h
  obtain ⟨n, hn⟩ : ∃ n, min l.length 60 = n := ⟨_, rfl⟩
  have hnl : n ≤ l.length := by omega
  have hn60 : n ≤ 60 := by omega
  have HV : Hid (IV w (.slice ao n cap) (l.take n)) := HA.out.take n hnl
  have HLN : Hid ((l.take n).length = n) := by show _ = _; rw [List.length_take]; omega
  have HOK : Hid (∀ x ∈ l.take n, okI x) := fun x hx => hok x (List.mem_of_mem_take hx)
  have hmin : min (l.length : Int) 60 = (n : Int) := by omega
  have hmin2 : (if (l.length : Int) < 60 then (l.length : Int) else 60) = (n : Int) := by split <;> omega
  have hmin3 : (if (60 : Int) < (l.length : Int) then 60 else (l.length : Int)) = (n : Int) := by split <;> omega
  have hmin4 : (if (l.length : Int) ≤ 60 then (l.length : Int) else 60) = (n : Int) := by split <;> omega
  have hncap : (n : Int) ≤ (cap : Int) := by omega
  have hn0 : (0 : Int) ≤ (n : Int) := by omega
  generalize hLN : l.take n = LN at *
  generalize l.length = ll at *
  clear hcells hok hLN HA E hnil hn
  go_enter Tryz.func3, Tryz.ntmps3
  go_wp2_with fail
  refine C.mono ?_
  rintro e w1 ⟨t, rfl, ht, b1⟩
  clear C
  have HT1 : Hid (Tabs w1 t) := ht
  have HB1 : Hid (Below w.heap.size w w1) := b1
  clear ht b1
  have C := rload_any w1
  go_wp2_with fail
  refine C.mono ?_
  rintro e w2 ⟨u, rfl, hu, b2⟩
  clear C
  have HB2 : Hid (Below w.heap.size w w2) := HB1.out.trans (b2.mono HB1.out.size)
  have HT2 : Hid (Tabs w2 t) := HT1.out.below b2
  have HU2 : Hid (RTabs w2 u) := hu
  have C := iclone_any (.slice ao n cap) LN w2 (HV.out.below HB2.out) (by rw [HLN.out]; omega)
  clear hu b2 HB1 HT1
  go_wp2_with fail
  refine C.mono ?_
  rintro e w3 ⟨gv, rfl, hgo, b3⟩
  clear C
  have HB3 : Hid (Below w.heap.size w w3) := HB2.out.trans (b3.mono HB2.out.size)
  have HT3 : Hid (Tabs w3 t) := HT2.out.below b3
  have HU3 : Hid (RTabs w3 u) := HU2.out.below b3
  have HG3 : Hid (IV w3 gv LN) := hgo.iv
  have C := runes_any t gv LN w3 HT3.out HG3.out HOK.out (by rw [HLN.out]; omega)
  clear hgo b3 HB2 HT2 HU2
  go_wp2_with fail
  refine C.mono ?_
  rintro e w4 ⟨ov, rfl, ho, b4⟩
  clear C
  have HB4 : Hid (Below w.heap.size w w4) := HB3.out.trans (b4.mono HB3.out.size)
  have HT4 : Hid (Tabs w4 t) := HT3.out.below b4
  have HU4 : Hid (RTabs w4 u) := HU3.out.below b4
  have HG4 : Hid (IV w4 gv LN) := HG3.out.below b4
  have HO4 : Hid (IV w4 ov (nfdR LN)) := ho.iv
  have hle := nfdR_le LN
  rw [HLN.out] at hle
  have C := rrunes_any u (.slice ao n cap) LN w4 HU4.out (HV.out.below HB4.out) (by rw [HLN.out]; omega)
  clear ho b4 HB3 HT3 HU3 HG3
  go_wp2_with fail
  refine C.mono ?_
  rintro e w5 ⟨rv, rfl, hr, b5⟩
  clear C
  have HB5 : Hid (Below w.heap.size w w5) := HB4.out.trans (b5.mono HB4.out.size)
  have HT5 : Hid (Tabs w5 t) := HT4.out.below b5
  have HU5 : Hid (RTabs w5 u) := HU4.out.below b5
  have HG5 : Hid (IV w5 gv LN) := HG4.out.below b5
  have C := iequal_any ov rv (nfdR LN) w5 (HO4.out.below b5) hr.iv (by omega)
  clear hr b5 HB4 HT4 HU4 HG4 HO4
  go_wp2_with fail
  refine C.mono ?_
  rintro e w6 ⟨rfl, b6⟩
  clear C
  have HB6 : Hid (Below w.heap.size w w6) := HB5.out.trans (b6.mono HB5.out.size)
  have HU6 : Hid (RTabs w6 u) := HU5.out.below b6
  have HG6 : Hid (IV w6 gv LN) := HG5.out.below b6
  have C := is_any t gv LN w6 (HT5.out.below b6) HG6.out HOK.out (by rw [HLN.out]; omega)
  clear b6 HB5 HT5 HU5 HG5
  obtain ⟨bb, hbb⟩ : ∃ bb, (nfdR LN == LN) = bb := ⟨_, rfl⟩
  have HBB : Hid ((nfdR LN == LN) = bb) := hbb
  rw [hbb] at C
  clear hbb
  go_wp2_with fail
  refine C.mono ?_
  rintro e w7 ⟨rfl, b7⟩
  clear C
  have HB7 : Hid (Below w.heap.size w w7) := HB6.out.trans (b7.mono HB6.out.size)
  have HG7 : Hid (IV w7 gv LN) := HG6.out.below b7
  have C := ris_any u (.slice ao n cap) LN w7 (HU6.out.below b7) (HV.out.below HB7.out) (by rw [HLN.out]; omega)
  rw [HBB.out] at C
  clear b7 HB6 HU6 HG6
  go_wp2_with fail
  refine C.mono ?_
  rintro e w8 ⟨rfl, b8⟩
  clear C
  have HB8 : Hid (Below w.heap.size w w8) := HB7.out.trans (b8.mono HB7.out.size)
  have C := iequal_any gv (.slice ao n cap) LN w8 (HG7.out.below b8) (HV.out.below HB8.out) (by rw [HLN.out]; omega)
  have hbe : (bb == bb) = true := by simp
  clear b8 HB7 HG7
  go_wp2_with fail
  refine C.mono ?_
  rintro e w9 ⟨rfl, b9⟩
  clear C
  have HB9 : Hid (Below w.heap.size w w9) := HB8.out.trans (b9.mono HB8.out.size)
  have C := awake_any w9 (HE.out.below HB9.out)
  clear b9 HB8
  go_wp2_with fail
  refine C.mono ?_
  rintro e w10 ⟨rfl, b10⟩
  have R : Hid (Below w.heap.size w w10) := HB9.out.trans (b10.mono HB9.out.size)
  clear C b10
  go_wp2
  go_ret
  exact ⟨rfl, R.out⟩
end Go.Proofs.YtfknljjbdofjjabGreatDoor.nrm
end
