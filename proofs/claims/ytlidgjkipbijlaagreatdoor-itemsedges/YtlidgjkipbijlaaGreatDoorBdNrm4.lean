/- Texts that the proof leans on, one behind the other. -/
import Derived.Test.YtlidgjkipbijlaaGreatDoorBdNrm3
import Derived.Test.YtlidgjkipbijlaaGreatDoorBdNrm2
import Derived.ProofKit
import Derived.OpenShut
import Derived.Deep.DeepHandedRow
import Derived.ChangeMaps5
import Derived.Deep.Strs
import Derived.Deep.QuietTactic
import Derived.BigQuiet
import Derived.Lib.SliceRun

section
/- The document's NFD of items: the walk. -/
set_option linter.unusedVariables false
set_option linter.unusedSimpArgs false
namespace Go.Proofs.YtlidgjkipbijlaaGreatDoor.nrm
open Go.Shelf Go.RowKit Go.Lib Go.Sort Go.Proofs
open Go.Proofs.YtlidgjkipbijlaaGreatDoor.prp Go.Proofs.YtlidgjkipbijlaaGreatDoor.nfd Go.Proofs.YtlidgjkipbijlaaGreatDoor.lin Go.Proofs.YtlidgjkipbijlaaGreatDoor.dcp

theorem own3_low {w : World} {B B' : Nat} {v : Value} {L : List nfd.I} (h : Own3 w B v L) (hb : B' ≤ B) : Own3 w B' v L := by
  refine ⟨h.1, ?_⟩
  rcases h.2 with h0 | ⟨g, cap, cur, h1, h2, h3⟩
  · exact .inl h0
  · exact .inr ⟨g, cap, cur, h1, Nat.le_trans hb h2, h3⟩
theorem ritems_cells {w : World} {v : Value} {L : List nfd.I} (h : IVI w v L) {ao : Option Addr} {n c : Nat} (e : v = .slice ao n c) : ∀ k, k < L.length → ∃ x1 x2 x3 b o, L[k]? = some (x1, x2, x3) ∧ ao = some ⟨b, o, none⟩ ∧ w.cell? ⟨b, o + k * 3, none⟩ = some (.int .i64 x1) ∧ w.cell? ⟨b, o + k * 3 + 1, none⟩ = some (.int .i64 x2) ∧ w.cell? ⟨b, o + k * 3 + 2, none⟩ = some (.int .i64 x3) := fun k hk => by
  obtain ⟨a, c', e', hcells⟩ := h
  rw [e'] at e
  cases e
  obtain ⟨b, o, e, hc⟩ := hcells (by omega)
  obtain ⟨c1, c2, c3⟩ := hc k _ (List.getElem?_eq_getElem hk)
  exact ⟨_, _, _, b, o, List.getElem?_eq_getElem hk, e, c1, c2, c3⟩
set_option maxHeartbeats 4000000 in
set_option maxRecDepth 1000000 in
theorem ritems_any (u : Nat) (v : Value) (l : List nfd.I) (w : World) (hT : RTabs w u) (hv : IVI w v l) (hl : l.length ≤ 1000) :
    Calls Tryz.prog 47 #[.pointer (some ⟨u, 0, none⟩), v] w fun e w' => ∃ v, e = .returned v ∧ Own3 w' w.heap.size v (nfdI l) ∧ Below w.heap.size w w' := by
  obtain ⟨ao, cap, hve, _⟩ := id hv
  have HC : Hid (∀ k, k < l.length → ∃ x1 x2 x3 b o, l[k]? = some (x1, x2, x3) ∧ ao = some ⟨b, o, none⟩ ∧ w.cell? ⟨b, o + k * 3, none⟩ = some (.int .i64 x1) ∧ w.cell? ⟨b, o + k * 3 + 1, none⟩ = some (.int .i64 x2) ∧ w.cell? ⟨b, o + k * 3 + 2, none⟩ = some (.int .i64 x3)) := ritems_cells hv hve
  subst hve
  have HT : Hid (RTabs w u) := hT
  have HLN : Hid (∀ k, (apL (l.take k)).length ≤ 9000) := fun k => by
    have := apL_len (l.take k)
    rw [List.length_take] at this
    omega
  have HALL : Hid (l.take l.length = l) := List.take_length
  obtain ⟨cf, hcf⟩ : ∃ cf : Int → Int, cf = ccc := ⟨_, rfl⟩
  have HCF : Hid (cf = ccc) := hcf
  have HCM : Hid (∀ r W, RTabs W u → Calls Tryz.prog 66 #[.pointer (some ⟨u, 0, none⟩), .int .i64 r] W fun e w' => e = .returned (.int .i64 (cf r)) ∧ Below W.heap.size W w') := fun r W h => by rw [hcf]; exact rcombining_t u r W h
  clear hv hT hcf
  generalize hnl : l.length = nl at *
  clear hnl
  go_enter Tryz.func47, Tryz.ntmps47
  go_wp2
  go_loopw [5, 15] (fun v i wr => ∃ k : Nat, k ≤ nl ∧ i = .int .i64 k ∧ Hid (Own3 wr w.heap.size v (nfdI (l.take k))) ∧ Hid (Below w.heap.size w wr)) (fun _ i _ => nl - (RowKit.intOf i).toNat)
  case atStart => exact ⟨0, Nat.zero_le _, rfl, Own3.nil _ _, Below.refl _ _⟩
  case round =>
    obtain ⟨k, hk, rfl, HO, HB⟩ := hrel
    by_cases hlt : k < nl
    · have hlt' : (k : Int) < (nl : Int) := by omega
      have hk0 : (0 : Int) ≤ (k : Int) := by omega
      obtain ⟨r, s, e, b, o, hg, rfl, c1, c2, c3⟩ := HC.out k hlt
      have d1 := cell_below HB.out c1
      have d2 := cell_below HB.out c2
      have d3 := cell_below HB.out c3
      have hsz := HB.out.size
      have HAP : Hid (apL (l.take (k + 1)) = apL (l.take k) ++ (fullL r).map (fun q => (q, s, e))) := by
        show _ = _
        unfold apL
        rw [List.take_add_one, hg, List.flatMap_append]
        simp [part3]
      obtain ⟨WR, hWR⟩ : ∃ WR, WR = wr.alloc (.cells #[.int .i64 r, .int .i64 s, .int .i64 e] 30) := ⟨_, rfl⟩
      have bA : Below wr.heap.size wr WR := by rw [hWR]; exact (Below.refl _ wr).alloc (Nat.le_refl _) _
      have nbA : WR.heap[wr.heap.size]? = some (.cells #[.int .i64 r, .int .i64 s, .int .i64 e] 30 (0, 0)) := by rw [hWR]; exact World.alloc_heap_new _ _
      have C := rfull_any u r WR (HT.out.below (HB.out.trans (bA.mono hsz)))
      rw [hWR] at C
      have hfl := full_len r
      have hln := HLN.out k
      generalize hFR : fullL r = FR at *
      clear c1 c2 c3 hg
      go_wp2_with fail
      refine C.mono ?_
      rintro e' w2 ⟨v2, rfl, ho2, b2⟩
      rw [← hWR] at ho2 b2
      have B2 : Below wr.heap.size wr w2 := bA.trans (b2.mono bA.size)
      have HO2 : Hid (Own3 w2 w.heap.size u5 (nfdI (l.take k))) := HO.out.below B2
      have HB2 : Hid (Below w.heap.size w w2) := HB.out.trans (B2.mono hsz)
      have nb2 : w2.heap[wr.heap.size]? = some (.cells #[.int .i64 r, .int .i64 s, .int .i64 e] 30 (0, 0)) := (b2.block _ (Array.getElem?_eq_some_iff.1 nbA).1).trans nbA
      obtain ⟨fa, fc, rfl, hfc⟩ := ho2.iv
      have HFC : Hid (∀ j, j < FR.length → ∃ q fb fo, FR[j]? = some q ∧ fa = some ⟨fb, fo, none⟩ ∧ w2.cell? ⟨fb, fo + j, none⟩ = some (.int .i64 q)) := fun j hj => by
        obtain ⟨b, o, e, hc⟩ := hfc (by omega)
        exact ⟨FR[j], b, o, List.getElem?_eq_getElem hj, e, by rw [hc j hj, List.getD_eq_getElem?_getD, List.getElem?_eq_getElem hj]; rfl⟩
      have HNB : Hid (w2.heap[wr.heap.size]? = some (.cells #[.int .i64 r, .int .i64 s, .int .i64 e] 30 (0, 0))) := nb2
      have HFA : Hid (FR.take FR.length = FR) := List.take_length
      clear C ho2 b2 hfc nb2 nbA bA B2 hWR HO d1 d2 d3
      generalize hfn : FR.length = fn at *
      obtain ⟨ib, hib⟩ : ∃ ib, wr.heap.size = ib := ⟨_, rfl⟩
      have hib2 : ib < w2.heap.size := by rw [hib] at HNB; exact (Array.getElem?_eq_some_iff.1 HNB.out).1
      rw [hib] at HNB ⊢
      clear HB hsz
      go_wp2
      go_loopw [5, 24] (fun v i wr => ∃ j : Nat, j ≤ fn ∧ i = .int .i64 j ∧ Hid (Own3 wr w.heap.size v (ordL kI (apL (l.take k) ++ (FR.take j).map (fun q => (q, s, e))))) ∧ Hid (Below w2.heap.size w2 wr)) (fun _ i _ => fn - (RowKit.intOf i).toNat)
      case atStart => exact ⟨0, Nat.zero_le _, rfl, by show Own3 _ _ _ _; rw [List.take_zero, List.map_nil, List.append_nil]; exact HO2.out, Below.refl _ _⟩
      case round =>
        obtain ⟨j, hj, rfl, HO3, HB3⟩ := hrel
        by_cases hlt2 : j < fn
        · have hlt2' : (j : Int) < (fn : Int) := by omega
          have hj0 : (0 : Int) ≤ (j : Int) := by omega
          obtain ⟨q, fb, fo, hq, rfl, hf3⟩ := HFC.out j hlt2
          have c0 := cell_below HB3.out hf3
          have nb3 : wr.heap[ib]? = some (.cells #[.int .i64 r, .int .i64 s, .int .i64 e] 30 (0, 0)) := (HB3.out.block ib hib2).trans HNB.out
          have e1 := cell_of_row wr ib 1 _ _ _ nb3
          have e2 := cell_of_row wr ib 2 _ _ _ nb3
          simp at e1 e2
          have hib3 : ib < wr.heap.size := (Array.getElem?_eq_some_iff.1 nb3).1
          have HPN : Hid (apL (l.take k) ++ (FR.take (j + 1)).map (fun q => (q, s, e)) = (apL (l.take k) ++ (FR.take j).map (fun q => (q, s, e))) ++ [(q, s, e)]) := by
            show _ = _
            rw [List.take_add_one, hq, List.map_append, List.append_assoc]
            rfl
          have hpl : (apL (l.take k) ++ (FR.take j).map (fun q => (q, s, e))).length ≤ 19000 := by
            rw [List.length_append, List.length_map, List.length_take, hfn]
            omega
          generalize apL (l.take k) ++ (FR.take j).map (fun q => (q, s, e)) = PL at *
          have HOL : Hid ((ordL kI PL).length = PL.length) := len_ordL kI PL
          obtain ⟨n, hn⟩ : ∃ n, (ordL kI PL).length = n := ⟨_, rfl⟩
          have HN : Hid ((ordL kI PL).length = n) := hn
          have hn9 : n ≤ 19000 := by rw [← hn, HOL.out]; exact hpl
          obtain ⟨WY, hWY⟩ : ∃ WY, WY = wr.alloc (.cells #[.int .i64 q, .int .i64 s, .int .i64 e] 30) := ⟨_, rfl⟩
          have bY : Below wr.heap.size wr WY := by rw [hWY]; exact (Below.refl _ wr).alloc (Nat.le_refl _) _
          have nbY : WY.heap[wr.heap.size]? = some (.cells #[.int .i64 q, .int .i64 s, .int .i64 e] 30 (0, 0)) := by rw [hWY]; exact World.alloc_heap_new _ _
          have HBY : Hid (Below w2.heap.size w2 WY) := HB3.out.trans (bY.mono HB3.out.size)
          have HOY : Hid (Own3 WY w.heap.size u5 (ordL kI PL)) := HO3.out.below bY
          have HRT : Hid (∀ W, Below w2.heap.size w2 W → RTabs W u) := fun W h => HT.out.below (HB2.out.trans (h.mono HB2.out.size))
          have C := HCM.out q WY (HRT.out WY HBY.out)
          rw [hWY] at C
          have HKQ : Hid (kI (q, s, e) = cf q) := by show kI (q, s, e) = cf q; rw [HCF.out]; rfl
          have HKK : Hid (∀ x : nfd.I, kI x = cf x.1) := fun x => by rw [HCF.out]; rfl
          clear hq hf3 nb3 hpl
          rcases HO3.out.2 with ⟨hy, h0⟩ | ⟨g, yc, cur, hy, _, _, hnc, hcm, _, _⟩
          · subst hy
            have hOn : ordL kI PL = [] := List.eq_nil_of_length_eq_zero h0
            obtain rfl : n = 0 := by rw [← hn]; exact h0
            clear HO3 h0 hn
            go_wp2_with fail
            refine C.mono ?_
            rintro e' w4 ⟨rfl, b4⟩
            rw [← hWY] at b4
            clear C
            have HB4 : Hid (Below w2.heap.size w2 w4) := HBY.out.trans (b4.mono HBY.out.size)
            have HO4 : Hid (Own3 w4 w.heap.size (Value.slice none 0 0) (ordL kI PL)) := HOY.out.below b4
            have HY4 : Hid (w4.heap[wr.heap.size]? = some (.cells #[.int .i64 q, .int .i64 s, .int .i64 e] 30 (0, 0))) := (b4.block _ (Array.getElem?_eq_some_iff.1 nbY).1).trans nbY
            obtain ⟨yb, hyb⟩ : ∃ yb, wr.heap.size = yb := ⟨_, rfl⟩
            rw [hyb] at HY4 ⊢
            clear b4 nbY bY hWY HBY HOY c0 e1 e2
            have HPUT : Hid (ordL kI (PL ++ [(q, s, e)]) = [(q, s, e)]) := by
              show _ = _
              by_cases hc : 0 < kI (q, s, e)
              · have := ord_put kI PL (q, s, e) 0 (Nat.zero_le _) (fun j g _ h => by rw [hOn] at h; simp at h) (fun g h => by omega) hc
                rw [this, hOn]; rfl
              · have := ord_last kI PL (q, s, e) (by omega)
                rw [this, hOn]; rfl
            clear hOn
            by_cases hcp : cf q > 0
            · go_wp2
              refine wp_loop_rounds 1 ?_
              rw [rounds_succ]
              go_wp2
              refine put_none _ q s e yb w4 HY4.out (fun v' W' _ _ _ _ _ _ _ _ _ _ _ _ ho hb => ?_)
              have hsx := HB4.out.size
              have hsy := HB2.out.size
              have R1 : Hid (Own3 W' w.heap.size v' (ordL kI (apL (l.take k) ++ (FR.take (j + 1)).map (fun q => (q, s, e))))) := by
                show Own3 _ _ _ _
                rw [HPN.out, HPUT.out]
                exact own3_low ho (by omega)
              have R2 : Hid (Below w2.heap.size w2 W') := HB4.out.trans (hb.mono HB4.out.size)
              clear ho hb HPUT
              go_wp2
              go_roundw
              case rel => exact ⟨j + 1, by omega, by go_num, R1, R2⟩
              case measure => simp [RowKit.intOf]; omega
            · go_wp2
              refine put_none _ q s e yb w4 HY4.out (fun v' W' _ _ _ _ _ _ _ _ _ _ _ _ ho hb => ?_)
              have hsx := HB4.out.size
              have hsy := HB2.out.size
              have R1 : Hid (Own3 W' w.heap.size v' (ordL kI (apL (l.take k) ++ (FR.take (j + 1)).map (fun q => (q, s, e))))) := by
                show Own3 _ _ _ _
                rw [HPN.out, HPUT.out]
                exact own3_low ho (by omega)
              have R2 : Hid (Below w2.heap.size w2 W') := HB4.out.trans (hb.mono HB4.out.size)
              clear ho hb HPUT
              go_wp2
              go_roundw
              case rel => exact ⟨j + 1, by omega, by go_num, R1, R2⟩
              case measure => simp [RowKit.intOf]; omega
          · rw [hn] at hy hnc
            subst hy
            unfold maxLen at hcm
            clear HO3
            go_wp2_with fail
            refine C.mono ?_
            rintro e' w4 ⟨rfl, b4⟩
            rw [← hWY] at b4
            clear C
            have HB4 : Hid (Below w2.heap.size w2 w4) := HBY.out.trans (b4.mono HBY.out.size)
            have HO4 : Hid (Own3 w4 w.heap.size (Value.slice (some ⟨g, 0, none⟩) n yc) (ordL kI PL)) := HOY.out.below b4
            have HY4 : Hid (w4.heap[wr.heap.size]? = some (.cells #[.int .i64 q, .int .i64 s, .int .i64 e] 30 (0, 0))) := (b4.block _ (Array.getElem?_eq_some_iff.1 nbY).1).trans nbY
            obtain ⟨yb, hyb⟩ : ∃ yb, wr.heap.size = yb := ⟨_, rfl⟩
            rw [hyb] at HY4 ⊢
            clear b4 nbY bY hWY HBY HOY c0 e1 e2
            by_cases hcp : cf q > 0
            · go_wp2
              go_loopw [11] (fun a wr => ∃ m : Nat, m ≤ n ∧ a = .int .i64 m ∧ Hid (∀ j g, m ≤ j → (ordL kI PL)[j]? = some g → kI (q, s, e) < kI g) ∧ Hid (Below w4.heap.size w4 wr)) (fun a _ => (RowKit.intOf a).toNat)
              case atStart => exact ⟨n, Nat.le_refl _, rfl, (fun j g h1 h2 => by rw [List.getElem?_eq_none (by rw [HN.out]; exact h1)] at h2; cases h2), Below.refl _ _⟩
              case round =>
                obtain ⟨m, hm, rfl, HG, HBm⟩ := hrel
                have HB5 : Hid (Below w2.heap.size w2 wr) := HB4.out.trans (HBm.out.mono HB4.out.size)
                have HO5 : Hid (Own3 wr w.heap.size (.slice (some ⟨g, 0, none⟩) n yc) (ordL kI PL)) := HO4.out.below HBm.out
                have HY5 : Hid (wr.heap[yb]? = some (.cells #[.int .i64 q, .int .i64 s, .int .i64 e] 30 (0, 0))) := (HBm.out.block _ (Array.getElem?_eq_some_iff.1 HY4.out).1).trans HY4.out
                rcases Nat.eq_zero_or_pos m with h0 | h0
                · subst h0
                  have HPUT : Hid (ordL kI (PL ++ [(q, s, e)]) = (ordL kI PL).take 0 ++ (q, s, e) :: (ordL kI PL).drop 0) := ord_put kI PL (q, s, e) 0 (Nat.zero_le _) HG.out (fun g h => by omega) (by rw [HKQ.out]; exact hcp)
                  clear HG
                  go_wp2
                  refine put_some _ q s e (ordL kI PL) g n yc yb 0 w.heap.size wr HO5.out HN.out (Nat.zero_le _) hn9 hnc hcm HY5.out (fun v' W' _ _ _ _ _ _ _ _ _ _ _ _ ho hb => ?_)
                  have hsx := HB5.out.size
                  have hsy := HB2.out.size
                  have R1 : Hid (Own3 W' w.heap.size v' (ordL kI (apL (l.take k) ++ (FR.take (j + 1)).map (fun q => (q, s, e))))) := by
                    show Own3 _ _ _ _
                    rw [HPN.out, HPUT.out]
                    exact own3_low ho (by omega)
                  have R2 : Hid (Below w2.heap.size w2 W') := HB5.out.trans (hb.mono HB5.out.size)
                  clear ho hb HPUT
                  go_wp2
                  go_roundw
                  case rel => exact ⟨j + 1, by omega, by go_num, R1, R2⟩
                  case measure => simp [RowKit.intOf]; omega
                · obtain ⟨m', rfl⟩ : ∃ m', m = m' + 1 := ⟨m - 1, by omega⟩
                  obtain ⟨y1, y2, y3, b', o', hgm, he, c1, c2, c3⟩ := ritems_cells HO5.out.iv rfl m' (by rw [HN.out]; omega)
                  cases he
                  rw [Nat.zero_add] at c1
                  have C := HCM.out y1 wr (HRT.out wr HB5.out)
                  have hm1 : ((m' + 1 : Nat) : Int) > 0 := by omega
                  have hm2 : (m' : Int) < (n : Int) := by omega
                  have hm3 : (0 : Int) ≤ (m' : Int) := by omega
                  have hm4 : ((m' + 1 : Nat) : Int) - 1 = (m' : Int) := by omega
                  have hm5 : IntKind.i64.wrap (m' : Int) = (m' : Int) := by rw [IntKind.wrap_i64]; omega
                  have HGM : Hid ((ordL kI PL)[m']? = some (y1, y2, y3)) := hgm
                  clear hgm c2 c3
                  go_wp2_with fail
                  refine C.mono ?_
                  rintro e' w6 ⟨rfl, b6⟩
                  clear C
                  have HB6 : Hid (Below w2.heap.size w2 w6) := HB5.out.trans (b6.mono HB5.out.size)
                  have HBm6 : Hid (Below w4.heap.size w4 w6) := HBm.out.trans (b6.mono HBm.out.size)
                  have HO6 : Hid (Own3 w6 w.heap.size (.slice (some ⟨g, 0, none⟩) n yc) (ordL kI PL)) := HO5.out.below b6
                  have HY6 : Hid (w6.heap[yb]? = some (.cells #[.int .i64 q, .int .i64 s, .int .i64 e] 30 (0, 0))) := (b6.block _ (Array.getElem?_eq_some_iff.1 HY5.out).1).trans HY5.out
                  clear b6 HB5 HO5 HY5 HBm c1
                  by_cases hgt : cf y1 > cf q
                  · have HG2 : Hid (∀ j g, m' ≤ j → (ordL kI PL)[j]? = some g → kI (q, s, e) < kI g) := fun j g h1 h2 => by
                      rcases Nat.lt_or_ge j (m' + 1) with h | h
                      · obtain rfl : j = m' := by omega
                        rw [HGM.out] at h2
                        cases h2
                        rw [HKQ.out, HKK.out]
                        exact hgt
                      · exact HG.out j g h h2
                    clear HG HGM
                    go_wp2
                    go_roundw
                    case rel => exact ⟨m', by omega, by go_num, HG2, HBm6⟩
                    case measure => simp [RowKit.intOf]
                  · have HPUT : Hid (ordL kI (PL ++ [(q, s, e)]) = (ordL kI PL).take (m' + 1) ++ (q, s, e) :: (ordL kI PL).drop (m' + 1)) := ord_put kI PL (q, s, e) (m' + 1) (by rw [HN.out]; exact hm) HG.out (fun g _ h => by
                      rw [Nat.add_sub_cancel, HGM.out] at h
                      cases h
                      rw [HKQ.out, HKK.out]
                      exact hgt) (by rw [HKQ.out]; exact hcp)
                    clear HG HGM
                    go_wp2
                    refine put_some _ q s e (ordL kI PL) g n yc yb (m' + 1) w.heap.size w6 HO6.out HN.out hm hn9 hnc hcm HY6.out (fun v' W' _ _ _ _ _ _ _ _ _ _ _ _ ho hb => ?_)
                    have hsx := HB6.out.size
                    have hsy := HB2.out.size
                    have R1 : Hid (Own3 W' w.heap.size v' (ordL kI (apL (l.take k) ++ (FR.take (j + 1)).map (fun q => (q, s, e))))) := by
                      show Own3 _ _ _ _
                      rw [HPN.out, HPUT.out]
                      exact own3_low ho (by omega)
                    have R2 : Hid (Below w2.heap.size w2 W') := HB6.out.trans (hb.mono HB6.out.size)
                    clear ho hb HPUT
                    go_wp2
                    go_roundw
                    case rel => exact ⟨j + 1, by omega, by go_num, R1, R2⟩
                    case measure => simp [RowKit.intOf]; omega
            · have HPUT : Hid (ordL kI (PL ++ [(q, s, e)]) = (ordL kI PL).take n ++ (q, s, e) :: (ordL kI PL).drop n) := by
                have := ord_last kI PL (q, s, e) (by rw [HKQ.out]; omega)
                rw [HN.out] at this
                exact this
              go_wp2
              refine put_some _ q s e (ordL kI PL) g n yc yb n w.heap.size w4 HO4.out HN.out (Nat.le_refl _) hn9 hnc hcm HY4.out (fun v' W' _ _ _ _ _ _ _ _ _ _ _ _ ho hb => ?_)
              have hsx := HB4.out.size
              have hsy := HB2.out.size
              have R1 : Hid (Own3 W' w.heap.size v' (ordL kI (apL (l.take k) ++ (FR.take (j + 1)).map (fun q => (q, s, e))))) := by
                show Own3 _ _ _ _
                rw [HPN.out, HPUT.out]
                exact own3_low ho (by omega)
              have R2 : Hid (Below w2.heap.size w2 W') := HB4.out.trans (hb.mono HB4.out.size)
              clear ho hb HPUT
              go_wp2
              go_roundw
              case rel => exact ⟨j + 1, by omega, by go_num, R1, R2⟩
              case measure => simp [RowKit.intOf]; omega
        · have hlt2' : ¬ (j : Int) < (fn : Int) := by omega
          obtain rfl : j = fn := by omega
          have R1 : Hid (Own3 wr w.heap.size u5 (nfdI (l.take (k + 1)))) := by
            show Own3 _ _ _ _
            unfold nfdI
            rw [HAP.out, ← HFA.out]
            exact HO3.out
          have R2 : Hid (Below w.heap.size w wr) := HB2.out.trans (HB3.out.mono HB2.out.size)
          clear HO3 HB3
          go_wp2
          go_roundw
          case rel => exact ⟨k + 1, by omega, by go_num, R1, R2⟩
          case measure => simp [RowKit.intOf]; omega
    · have hlt' : ¬ (k : Int) < (nl : Int) := by omega
      obtain rfl : k = nl := by omega
      have R1 : Hid (Own3 wr w.heap.size u5 (nfdI l)) := by
        have := HO.out
        rw [HALL.out] at this
        exact this
      clear HO
      go_wp2
      go_ret
      exact ⟨_, rfl, R1.out, HB.out⟩
end Go.Proofs.YtlidgjkipbijlaaGreatDoor.nrm
end

section
/- How slices of numbers and of items that came in as arguments read. -/
set_option linter.unusedVariables false
set_option linter.unusedSimpArgs false
namespace Go.Proofs.YtlidgjkipbijlaaGreatDoor.nrm
open Go.ChangeShapes Go.WideShapes Go.ChangeAt Go.RowKit Go.Deep
open Go.Proofs.YtlidgjkipbijlaaGreatDoor.prp (IV okI)

/-- The argument v reads as the numbers l. -/
def ArgC (W : World) (v : Value) (l : List Int) : Prop := ∃ ao cap, v = .slice ao l.length cap ∧ (0 < l.length → ∃ b o, ao = some ⟨b, o, none⟩ ∧ ∀ j, j < l.length → W.cell? ⟨b, o + j, none⟩ = some (.int .i64 (l.getD j 0))) ∧ (∀ r ∈ l, okI r) ∧ l.length ≤ cap ∧ cap ≤ 9223372036854775807 ∧ (ao = none → cap = 0)
set_option maxRecDepth 100000 in
theorem open_ints {H : Type} {enc : TypeId × Value → H} {W : World} {base : Nat} {v : Value} {d : DataW H} {p : List MemPlace}
    (hv : Value.okWide Tryz.prog W .any base 35 v) (h : DataW.Trod enc Tryz.prog W 0 (fun _ => true) true 35 v d p) :
    ∃ l : List Int, ArgC W v l := by
  obtain ⟨ao, n, cap, rfl⟩ := okWide_slice Tryz.underlying35 hv
  obtain ⟨fuel, hf⟩ := h
  rcases open_slice Tryz.underlying35 hf with ⟨hcs, _⟩ | ⟨a, len, cap', m, k, D, Pl, hcs, _, hl, hm, hmm, hx, hel⟩
  · simp [Value.cells] at hcs
    obtain ⟨rfl, rfl, rfl⟩ := hcs
    exact ⟨[], none, 0, rfl, fun h => by simp at h, fun r h => (by cases h), by simp, by omega, fun _ => rfl⟩
  · simp [Value.cells] at hcs
    obtain ⟨rfl, rfl, rfl⟩ := hcs
    simp at hmm
    subst hmm
    have c1 : Tryz.prog.cellsOf 3 = 1 := by kernel_rfl
    have each : ∀ i, i < n → ∃ r : Int, W.cell? (a.add i) = some (.int .i64 r) ∧ okI r := by
      intro i hi
      obtain ⟨cs', h1, h2⟩ := hel i (by omega)
      rw [c1] at h1
      obtain ⟨_, hlen, hcell⟩ := World.cells?_some h1
      match cs', hlen with
      | [v0], _ =>
        have e0 := hcell 0 (by omega)
        rw [Go.Deep.add_add] at e0
        obtain ⟨x0, hv0, hy0, hw0⟩ := DataW.trod_int Tryz.underlying3 h2
        obtain rfl : v0 = .int .i64 x0 := by simpa using hv0
        exact ⟨x0, by simpa using e0, by simpa [okI, Lit.wf, IntKind.min, IntKind.max, IntKind.signed, IntKind.bits] using hw0⟩
    obtain ⟨Rf, hR⟩ := choose_lt each
    unfold maxLen at hm
    refine ⟨(List.range n).map Rf, some a, _, by rw [List.length_map, List.length_range], fun h00 => ?_, fun r hr => ?_, by simpa using hl, by omega, fun e => by cases e⟩
    · have h0 : 0 < n := by simpa using h00
      obtain ⟨b, off, spot⟩ := a
      have hspot : spot = none := by simpa [Addr.add] using World.cell?_spot (hR 0 h0).1
      subst hspot
      refine ⟨b, off, rfl, fun i hi => ?_⟩
      have hil : i < n := by simpa using hi
      have q1 := (hR i hil).1
      rw [Addr.add_lit] at q1
      rw [q1, List.getD_eq_getElem?_getD, List.getElem?_map, List.getElem?_range hil]
      rfl
    · obtain ⟨i, hi, rfl⟩ := List.mem_map.1 hr
      exact (hR i (List.mem_range.1 hi)).2
/-- The argument's first n numbers. -/
theorem ArgC.take {W : World} {ao : Option Addr} {cap len : Nat} {l : List Int} (h : ArgC W (.slice ao len cap) l) (n : Nat) (hn : n ≤ l.length) : IV W (.slice ao n cap) (l.take n) := by
  obtain ⟨a, c, e, hc, _⟩ := h
  cases e
  have hl : (l.take n).length = n := by rw [List.length_take]; omega
  refine ⟨_, _, by rw [hl], fun h0 => ?_⟩
  obtain ⟨b, o, e, hx⟩ := hc (by omega)
  refine ⟨b, o, e, fun j hj => ?_⟩
  rw [hx j (by omega), List.getD_eq_getElem?_getD, List.getD_eq_getElem?_getD, List.getElem?_take_of_lt (by omega)]
end Go.Proofs.YtlidgjkipbijlaaGreatDoor.nrm
end

section
/- NormTwice, NormOrders: the walks. -/
set_option linter.unusedVariables false
set_option linter.unusedSimpArgs false
namespace Go.Proofs.YtlidgjkipbijlaaGreatDoor.nrm
open Go.Shelf Go.RowKit Go.Lib Go.Sort Go.Proofs
open Go.Proofs.YtlidgjkipbijlaaGreatDoor.prp Go.Proofs.YtlidgjkipbijlaaGreatDoor.nfd Go.Proofs.YtlidgjkipbijlaaGreatDoor.lin Go.Proofs.YtlidgjkipbijlaaGreatDoor.dcp

theorem full_flat {l : List Int} (h : ∀ x ∈ l, fullL x = [x]) : l.flatMap fullL = l := by
  induction l with
  | nil => rfl
  | cons x l ih => rw [List.flatMap_cons, h x (by simp), ih fun y hy => h y (by simp [hy])]; rfl
theorem nfdR_ends (l : List Int) : ∀ x ∈ nfdR l, fullL x = [x] := fun x hx => by
  unfold nfdR at hx
  rw [mem_ordL] at hx
  obtain ⟨r, _, hx⟩ := List.mem_flatMap.1 hx
  exact full_end r x hx
theorem nfdR_twice (l : List Int) : nfdR (nfdR l) = nfdR l := by
  have h1 : nfdR (nfdR l) = ordL ccc (nfdR l) := by
    show ordL ccc ((nfdR l).flatMap fullL) = _
    rw [full_flat (nfdR_ends l)]
  rw [h1]
  exact ordL_twice ccc _
theorem nfdR_le (l : List Int) : (nfdR l).length ≤ l.length * 9 := by
  unfold nfdR
  rw [len_ordL]
  exact flat_len l fun x _ => full_len x
end Go.Proofs.YtlidgjkipbijlaaGreatDoor.nrm
end

section
/- How a slice of items that came in as an argument reads. -/
set_option linter.unusedVariables false
set_option linter.unusedSimpArgs false
namespace Go.Proofs.YtlidgjkipbijlaaGreatDoor.nrm
open Go.ChangeShapes Go.WideShapes Go.ChangeAt Go.RowKit Go.Deep
open Go.Proofs.YtlidgjkipbijlaaGreatDoor.prp (IV okI)

/-- The argument v reads as the items l. -/
def ArgI (W : World) (v : Value) (l : List nfd.I) : Prop := ∃ ao cap, v = .slice ao l.length cap ∧ IVI W v l ∧ (∀ r ∈ l, okI r.1 ∧ okI r.2.1 ∧ okI r.2.2) ∧ l.length ≤ cap ∧ cap ≤ 9223372036854775807 ∧ (ao = none → cap = 0)
end Go.Proofs.YtlidgjkipbijlaaGreatDoor.nrm
end

section
/- slices.Equal and slices.Clone of items; NormItems: the walk. -/
set_option linter.unusedVariables false
set_option linter.unusedSimpArgs false
namespace Go.Proofs.YtlidgjkipbijlaaGreatDoor.nrm
open Go.Shelf Go.RowKit Go.Lib Go.Sort Go.Proofs
open Go.Proofs.YtlidgjkipbijlaaGreatDoor.prp Go.Proofs.YtlidgjkipbijlaaGreatDoor.nfd Go.Proofs.YtlidgjkipbijlaaGreatDoor.lin Go.Proofs.YtlidgjkipbijlaaGreatDoor.dcp

set_option maxHeartbeats 1000000 in
set_option maxRecDepth 1000000 in
theorem itequal_any (v1 v2 : Value) (L : List nfd.I) (w : World) (h1 : IVI w v1 L) (h2 : IVI w v2 L) (hn : L.length ≤ 1000000) :
    Calls Tryz.prog 10 #[v1, v2] w fun e w' => e = .returned (.bool true) ∧ Below w.heap.size w w' := by
  obtain ⟨a1, c1, e1, _⟩ := id h1
  obtain ⟨a2, c2, e2, _⟩ := id h2
  have H1 : Hid (∀ k, k < L.length → ∃ x1 x2 x3 b o, L[k]? = some (x1, x2, x3) ∧ a1 = some ⟨b, o, none⟩ ∧ w.cell? ⟨b, o + k * 3, none⟩ = some (.int .i64 x1) ∧ w.cell? ⟨b, o + k * 3 + 1, none⟩ = some (.int .i64 x2) ∧ w.cell? ⟨b, o + k * 3 + 2, none⟩ = some (.int .i64 x3)) := ritems_cells h1 e1
  have H2 : Hid (∀ k, k < L.length → ∃ x1 x2 x3 b o, L[k]? = some (x1, x2, x3) ∧ a2 = some ⟨b, o, none⟩ ∧ w.cell? ⟨b, o + k * 3, none⟩ = some (.int .i64 x1) ∧ w.cell? ⟨b, o + k * 3 + 1, none⟩ = some (.int .i64 x2) ∧ w.cell? ⟨b, o + k * 3 + 2, none⟩ = some (.int .i64 x3)) := ritems_cells h2 e2
  subst e1 e2
  clear h1 h2
  generalize L.length = n at *
  have hnn : ((n : Int) != (n : Int)) = false := by simp
  go_enter Tryz.func10, Tryz.ntmps10
  go_wp2
  go_loopw [13] (fun i wr => ∃ k : Nat, k ≤ n ∧ i = .int .i64 k ∧ ∃ q, wr = w.drewN q) (fun i _ => n - (RowKit.intOf i).toNat)
  case atStart => exact ⟨0, Nat.zero_le _, rfl, 0, rfl⟩
  case round =>
    obtain ⟨k, hk, rfl, q, rfl⟩ := hrel
    by_cases hlt : k < n
    · have hlt' : (k : Int) < (n : Int) := by omega
      obtain ⟨x1, x2, x3, b1, o1, hx, rfl, p1, p2, p3⟩ := H1.out k hlt
      obtain ⟨y1, y2, y3, b2, o2, hy, rfl, q1, q2, q3⟩ := H2.out k hlt
      rw [hx] at hy
      cases hy
      have p3' : w.cell? ⟨b1, o1 + k * 3 + 1 + 1, none⟩ = some (.int .i64 x3) := p3
      have q3' : w.cell? ⟨b2, o2 + k * 3 + 1 + 1, none⟩ = some (.int .i64 x3) := q3
      clear hx p3 q3
      go_wp2
      go_quiet (fail)
      go_wp2
      go_roundw
      case rel => exact ⟨k + 1, by omega, by go_num, _, rfl⟩
      case measure => simp [RowKit.intOf]; omega
    · have hlt' : ¬ (k : Int) < (n : Int) := by omega
      go_wp2
      go_ret
      exact ⟨rfl, Go.Proofs.YtlidgjkipbijlaaGreatDoor.rng.below_drewN (Below.refl _ _) _⟩
set_option maxHeartbeats 1000000 in
set_option maxRecDepth 1000000 in
theorem itclone_any (ao : Option Addr) (n cap : Nat) (L : List nfd.I) (w : World) (hv : IVI w (.slice ao n cap) L) (hl : L.length = n) (hnil : ao = none → n = 0 ∧ cap = 0) (hn : n ≤ 1000000) :
    Calls Tryz.prog 34 #[.slice ao n cap] w fun e w' => ∃ v, e = .returned v ∧ Own3 w' w.heap.size v L ∧ Below w.heap.size w w' := by
  obtain ⟨i0, hi, hz0, hz1, hz2⟩ := rng.info_parts infoItem
  have he := fun (w : World) (a : Option Addr) (n c : Nat) => Lib.run_eql_slice_nil (P := Tryz.prog) w 28 30 a n c 0 0 Tryz.underlying28
  cases ao with
  | none =>
    obtain ⟨rfl, rfl⟩ := hnil rfl
    obtain rfl := List.eq_nil_of_length_eq_zero hl
    clear hv hnil
    go_enter Tryz.func34, Tryz.ntmps34
    go_wp2
    go_ret
    exact ⟨_, rfl, Own3.nil _ _, Below.refl _ _⟩
  | some ad =>
    have bA : Below w.heap.size w (w.alloc (.cells #[] 30)) := (Below.refl _ w).alloc (Nat.le_refl _) _
    have HNW : Hid (∀ (j : Nat) u, (fl L)[j]? = some u → (w.alloc (.cells #[] 30)).cell? (ad.add j) = some u) := fun j u hj => by
      have hv' := hv.below bA
      obtain ⟨a, c, e, hc⟩ := hv'
      cases e
      have hjl : j < (fl L).length := (List.getElem?_eq_some_iff.1 hj).1
      rw [fl_length] at hjl
      obtain ⟨b, o, e, hx⟩ := hc (by omega)
      cases e
      rw [Addr.add_lit]
      have hil : j / 3 < L.length := by omega
      obtain ⟨d1, d2, d3⟩ := hx (j / 3) _ (List.getElem?_eq_getElem hil)
      obtain ⟨f1, f2, f3⟩ := fl_get L (j / 3) _ (List.getElem?_eq_getElem hil)
      rcases (show j = j / 3 * 3 ∨ j = j / 3 * 3 + 1 ∨ j = j / 3 * 3 + 2 by omega) with h | h | h
      · rw [h] at hj ⊢; rw [d1, ← f1]; exact hj
      · rw [h] at hj ⊢; rw [← Nat.add_assoc, d2, ← f2]; exact hj
      · rw [h] at hj ⊢; rw [← Nat.add_assoc, d3, ← f3]; exact hj
    have HOW : Hid ((w.alloc (.cells #[] 30)).ownsRow w.heap.size 30 3 (.slice (some ⟨w.heap.size, 0, none⟩) 0 0) 0 (fl [])) := World.ownsRow_lit (base := w.heap.size) (e := 30) (size := 3) w #[] 0 (Nat.le_refl _) (by unfold maxLen; omega) rfl
    have HBA : Hid (Below w.heap.size w (w.alloc (.cells #[] 30))) := bA
    have HL : Hid (L.length = n) := hl
    clear hv hnil bA hl
    go_enter Tryz.func34, Tryz.ntmps34
    go_wp2_with (at_builtin; refine wpList_append_own _ rfl _ _ 28 rfl w.heap.size 30 i0 (.agg #[.int .i64 0, .int .i64 0, .int .i64 0]) 3 24 Tryz.underlying28 hi hz0 hz1 hz2 rfl (by decide) _ _ _ rfl HOW.out ad n cap (fl L) rfl ?c0 HNW.out (fl_one L) ?c3 ?c4 HBA.out.size ?_)
    case c0 => rw [fl_length, HL.out]
    case c3 => unfold maxLen; omega
    case c4 => omega
    intro v' w3 hown3 hgrow _
    have R3 : Hid (Below w.heap.size w w3) := Below.grown HBA.out hgrow HBA.out.size (fun k e => (HOW.out.lt _ e).1)
    have R4 : Hid (Own3 w3 w.heap.size v' L) := by
      show Own3 _ _ _ _
      unfold Own3
      rw [HL.out]
      simpa [fl] using hown3
    clear hgrow hown3
    go_wp2
    go_ret
    exact ⟨_, rfl, R4.out, R3.out⟩
end Go.Proofs.YtlidgjkipbijlaaGreatDoor.nrm
end
