/- Texts that the proof leans on, one behind the other. -/
import Derived.Test.YtjbcapnpknbbaaaGreatWidBound1
import Derived.Laws.AppendOwnNone

section
/- walk.from over amounts, as package width hands it on. -/
set_option linter.unusedVariables false
set_option linter.unusedSimpArgs false
namespace Go.Proofs.YtjbcapnpknbbaaaGreat.wid
open Go.RowKit
open Go.Proofs.YtjbcapnpknbbaaaGreat.nod
open Go.Proofs.YtjbcapnpknbbaaaGreat.rng (R RV ret_int ret_bool below_drewN info_parts own_below' flat flat_append flat_length flat_get)


set_option maxRecDepth 10000 in
set_option maxHeartbeats 8000000 in
theorem from_bound (eb : Nat) : ∀ (N : Nat) (t : Nd) (v : Value) (above s : Int) (B : Nat) (w : World), t.sz ≤ N → NV B w t v → B ≤ w.heap.size → (∀ x, some eb = some x → B ≤ x ∧ x < w.heap.size) → St (some eb) (stV s) w → 0 ≤ above → above + N ≤ 1000000000 →
    Calls Tryz.prog 76 #[v, .int .i64 above, .func (.func 45) #[] #[], .func (.func 46) #[] #[.pointer (some ⟨eb, 0, none⟩)]] w fun e w' => e = .returned (agg2 (ofN t)) ∧ St (some eb) (stV (sb (badN t) s)) w' ∧ Kp (some eb) w w' := by
  intro N
  induction N with
  | zero => intro t v above s B w h; obtain ⟨k, m, a, b, g, n, st, ks⟩ := t; rw [Nd.sz] at h; omega
  | succ N ih =>
    intro t v above s B w hN hv hBw hE hst ha1 ha2
    obtain ⟨k, m, a, b, g, n, st, ks, sa, sc, ao, cap, rfl, rfl, _, _, _, hk1, hk2, _, hkv⟩ := hv.open
    rw [Nd.sz] at hN
    clear hv
    generalize st.length = sl at *
    obtain ⟨nk, hnk⟩ : ∃ nk, ks.length = nk := ⟨_, rfl⟩
    have HL : Hid (ks.length = nk) := hnk
    have HN : Hid (szL ks ≤ N) := by unfold Hid; omega
    have hk3 : nk ≤ 1000000000 := by have := len_szL ks; omega
    have HK : Hid (KV B w ao ks) := hkv
    have HE : Hid (∀ x, some eb = some x → B ≤ x ∧ x < w.heap.size) := hE
    rw [hnk] at hk1 ⊢
    have HB : Hid (Below w.heap.size w ((w.alloc (.cells #[.int .i64 k, .int .i64 m, .int .i64 a, .int .i64 b, .bool g, .string n, .slice sa sl sc, .slice ao nk cap] 25)).alloc (.cells #[.int .i64 0, .int .i64 0] 88))) := below2 _ _ _
    have HX : Hid (Bk ((w.alloc (.cells #[.int .i64 k, .int .i64 m, .int .i64 a, .int .i64 b, .bool g, .string n, .slice sa sl sc, .slice ao nk cap] 25)).alloc (.cells #[.int .i64 0, .int .i64 0] 88)) w.heap.size #[.int .i64 k, .int .i64 m, .int .i64 a, .int .i64 b, .bool g, .string n, .slice sa sl sc, .slice ao nk cap] 25) := (Bk.new w _ _).past _
    have HR : Hid (Bk ((w.alloc (.cells #[.int .i64 k, .int .i64 m, .int .i64 a, .int .i64 b, .bool g, .string n, .slice sa sl sc, .slice ao nk cap] 25)).alloc (.cells #[.int .i64 0, .int .i64 0] 88)) (w.heap.size + 1) #[.int .i64 0, .int .i64 0] 88) := bk2
    have HS : Hid (St (some eb) (stV s) ((w.alloc (.cells #[.int .i64 k, .int .i64 m, .int .i64 a, .int .i64 b, .bool g, .string n, .slice sa sl sc, .slice ao nk cap] 25)).alloc (.cells #[.int .i64 0, .int .i64 0] 88))) := hst.keep (below2 _ _ _)
    have HZ : Hid (((w.alloc (.cells #[.int .i64 k, .int .i64 m, .int .i64 a, .int .i64 b, .bool g, .string n, .slice sa sl sc, .slice ao nk cap] 25)).alloc (.cells #[.int .i64 0, .int .i64 0] 88)).heap.size = w.heap.size + 2) := by unfold Hid; simp
    have C1 := everywhere_any k m a b g n (.slice sa sl sc) (.slice ao nk cap) above ((w.alloc (.cells #[.int .i64 k, .int .i64 m, .int .i64 a, .int .i64 b, .bool g, .string n, .slice sa sl sc, .slice ao nk cap] 25)).alloc (.cells #[.int .i64 0, .int .i64 0] 88))
    have HI : Hid (∀ (t : Nd) (v : Value) (s : Int) (W : World), t ∈ ks → NV B W t v → w.heap.size ≤ W.heap.size → St (some eb) (stV s) W → Calls Tryz.prog 76 #[v, .int .i64 (above + 1), .func (.func 45) #[] #[], .func (.func 46) #[] #[.pointer (some ⟨eb, 0, none⟩)]] W fun e w' => e = .returned (agg2 (ofN t)) ∧ St (some eb) (stV (sb (badN t) s)) w' ∧ Kp (some eb) W w') := fun t v s W hm hv hs hst => by
      have := szL_mem hm
      exact ih t v (above + 1) s B W (by omega) hv (by omega) (fun x e => by have := hE x e; omega) hst (by omega) (by omega)
    have HJ : Hid (∀ (ao' : Option Addr) (cap' : Nat) (s : Int) (W : World), RV W ao' (ks.map ofN) → (∀ x, ao' = some x → ks.map ofN ≠ [] → x.block ≠ eb) → w.heap.size ≤ W.heap.size → St (some eb) (stV s) W → Calls Tryz.prog 46 (#[.agg #[.int .i64 k, .int .i64 m, .int .i64 a, .int .i64 b, .bool g, .string n, .slice sa sl sc, .slice ao nk cap], .slice ao' nk cap'] ++ #[.pointer (some ⟨eb, 0, none⟩)]) W fun e w' => e = .returned (agg2 (takenA k a b (ks.map ofN))) ∧ St (some eb) (stV (sb (behind k m && !fits (only (ks.map ofN))) s)) w' ∧ Kp (some eb) W w') := fun ao' cap' s W hv hxe hs hst => by
      have := join_bound k m a b g n (.slice sa sl sc) (.slice ao nk cap) ao' cap' (ks.map ofN) eb s W hv (by rw [List.length_map, hnk]; omega) (ofs_ok ks) hxe hst
      rw [List.length_map, hnk] at this
      exact this
    obtain ⟨i0, hi, hz0, hz1, hz2⟩ := info_parts infoAm
    clear hkv ih hN hnk hst hE
    go_enter Tryz.func76, Tryz.ntmps76
    go_wp2_with (go_at_call 45; refine C1.mono ?_; rintro e w1 ⟨rfl, d⟩; have D : Hid (Below ((w.alloc (.cells #[.int .i64 k, .int .i64 m, .int .i64 a, .int .i64 b, .bool g, .string n, .slice sa sl sc, .slice ao nk cap] 25)).alloc (.cells #[.int .i64 0, .int .i64 0] 88)).heap.size ((w.alloc (.cells #[.int .i64 k, .int .i64 m, .int .i64 a, .int .i64 b, .bool g, .string n, .slice sa sl sc, .slice ao nk cap] 25)).alloc (.cells #[.int .i64 0, .int .i64 0] 88)) w1) := d; have q7 := (HX.out.keep d (by rw [HZ.out]; omega)).cell 7 (u := .slice ao nk cap) rfl; clear d)
    have hw1 : w.heap.size + 2 ≤ w1.heap.size := by have := D.out.size; rw [HZ.out] at this; exact this
    have D1 : Hid (Kp (some eb) w w1) := (Kp.of_below HB.out).trans (Kp.of_below D.out)
    have HX1 : Hid (Bk w1 w.heap.size #[.int .i64 k, .int .i64 m, .int .i64 a, .int .i64 b, .bool g, .string n, .slice sa sl sc, .slice ao nk cap] 25) := HX.out.keep D.out (by rw [HZ.out]; omega)
    have HR1 : Hid (Bk w1 (w.heap.size + 1) #[.int .i64 0, .int .i64 0] 88) := HR.out.keep D.out (by rw [HZ.out]; omega)
    have HS1 : Hid (St (some eb) (stV s) w1) := HS.out.keep D.out
    have HO0 : Hid (w1.ownsRow (w.heap.size + 2) 88 2 (.slice none 0 0) 0 []) := World.ownsRow_nil _ _ _ _
    clear C1 HB HX HR HS HZ D
    go_loopw [9, 19] (fun vv i wr => ∃ (j : Nat), j ≤ nk ∧ i = .int .i64 j ∧ wr.ownsRow (w.heap.size + 2) 88 2 vv j (flat ((ks.take j).map ofN)) ∧ Hid (Kp (some eb) w wr) ∧ Hid (Bk wr w.heap.size #[.int .i64 k, .int .i64 m, .int .i64 a, .int .i64 b, .bool g, .string n, .slice sa sl sc, .slice ao nk cap] 25) ∧ Hid (Bk wr (w.heap.size + 1) #[.int .i64 0, .int .i64 0] 88) ∧ Hid (St (some eb) (stV (sb (badL (ks.take j)) s)) wr) ∧ w.heap.size + 2 ≤ wr.heap.size) (fun _ i _ => nk - (intOf i).toNat)
    case atStart => exact ⟨0, Nat.zero_le _, rfl, HO0.out, D1, HX1, HR1, HS1, hw1⟩
    case round =>
      obtain ⟨j, hj, rfl, hown, HD, HXr, HRr, HSr, hsz⟩ := hrel
      clear HO0 D1 HX1 HR1 HS1 hw1 q7
      by_cases hlt : j < nk
      · obtain ⟨t, ht⟩ := getX HL.out hlt
        obtain ⟨bb, off, rfl, hka⟩ := (HK.out.below (HD.out.below hBw (fun x e => (HE.out x e).1))).some (by have := HL.out; omega)
        obtain ⟨k', m', a', b', g', n', s', kk, sa', sc', ao', cap', rfl, ⟨e0, e1, e2, e3, e4, e5, e6, e7⟩, hv'⟩ := hka.kid ht
        have hmem := List.mem_of_getElem? ht
        have HT : Hid ((ks.take (j + 1)).map ofN = (ks.take j).map ofN ++ [ofN (.mk k' m' a' b' g' n' s' kk)]) := by unfold Hid; rw [takeX ht, List.map_append]; rfl
        have HT2 : Hid (badL (ks.take (j + 1)) = (badL (ks.take j) || badN (.mk k' m' a' b' g' n' s' kk))) := by unfold Hid; rw [takeX ht, badL_any, badL_any, List.any_append]; simp
        generalize s'.length = sl' at *
        generalize kk.length = nk' at *
        have W1 : Below wr.heap.size wr (wr.alloc (.cells #[.int .i64 k', .int .i64 m', .int .i64 a', .int .i64 b', .bool g', .string n', .slice sa' sl' sc', .slice ao' nk' cap'] 25)) := (Below.refl _ wr).alloc (Nat.le_refl _) _
        have C := HI.out _ _ (sb (badL (ks.take j)) s) (wr.alloc (.cells #[.int .i64 k', .int .i64 m', .int .i64 a', .int .i64 b', .bool g', .string n', .slice sa' sl' sc', .slice ao' nk' cap'] 25)) hmem (hv'.keep (below_less W1 (by omega))) (by simp; omega) (HSr.out.alloc _)
        have HO : Hid (wr.ownsRow (w.heap.size + 2) 88 2 u9 j (flat ((ks.take j).map ofN))) := hown
        obtain ⟨r, hr⟩ : ∃ r, ofN (.mk k' m' a' b' g' n' s' kk) = r := ⟨_, rfl⟩
        obtain ⟨r1, r2⟩ := r
        rw [hr] at C HT
        obtain ⟨q, hq⟩ : ∃ q, sb (badN (.mk k' m' a' b' g' n' s' kk)) (sb (badL (ks.take j)) s) = q := ⟨_, rfl⟩
        rw [hq] at C
        have HQ : Hid (q = sb (badL (ks.take (j + 1))) s) := by
          unfold Hid; rw [HT2.out, ← hq]; cases badN (.mk k' m' a' b' g' n' s' kk) <;> cases badL (ks.take j) <;> rfl
        have HW1 : Hid (Kp (some eb) w (wr.alloc (.cells #[.int .i64 k', .int .i64 m', .int .i64 a', .int .i64 b', .bool g', .string n', .slice sa' sl' sc', .slice ao' nk' cap'] 25))) := HD.out.alloc _
        have HX2 : Hid (Bk (wr.alloc (.cells #[.int .i64 k', .int .i64 m', .int .i64 a', .int .i64 b', .bool g', .string n', .slice sa' sl' sc', .slice ao' nk' cap'] 25)) w.heap.size #[.int .i64 k, .int .i64 m, .int .i64 a, .int .i64 b, .bool g, .string n, .slice sa sl sc, .slice (some ⟨bb, off, none⟩) nk cap] 25) := HXr.out.past _
        have HR2 : Hid (Bk (wr.alloc (.cells #[.int .i64 k', .int .i64 m', .int .i64 a', .int .i64 b', .bool g', .string n', .slice sa' sl' sc', .slice ao' nk' cap'] 25)) (w.heap.size + 1) #[.int .i64 0, .int .i64 0] 88) := HRr.out.past _
        have HO2 : Hid ((wr.alloc (.cells #[.int .i64 k', .int .i64 m', .int .i64 a', .int .i64 b', .bool g', .string n', .slice sa' sl' sc', .slice ao' nk' cap'] 25)).ownsRow (w.heap.size + 2) 88 2 u9 j (flat ((ks.take j).map ofN))) := hown.alloc _
        clear hown hka hv' ht hmem W1 hr hq HD HSr HXr HRr HI HT2
        go_wp2_with (first
          | (go_at_call 76; refine C.mono ?_; rintro e w2 ⟨rfl, hs2, k2⟩; have K2 : Hid (Kp (some eb) (wr.alloc (.cells #[.int .i64 k', .int .i64 m', .int .i64 a', .int .i64 b', .bool g', .string n', .slice sa' sl' sc', .slice ao' nk' cap'] 25)) w2) := k2; have S2 : Hid (St (some eb) (stV q) w2) := hs2; have own2 := own_kp HO2.out k2 (fun x e => by have := HE.out x e; omega); clear hs2 k2)
          | (at_builtin; refine wpList_append_own _ rfl _ _ 90 rfl (w.heap.size + 2) 88 i0 (.agg #[.int .i64 0, .int .i64 0]) 2 16 Tryz.underlying90 hi hz0 hz1 hz2 rfl (by decide) _ _ _ rfl (own2.alloc _) ⟨w2.heap.size, 0, none⟩ 1 1 [.int .i64 r1, .int .i64 r2] rfl rfl ?c1 ?c2 ?c3 ?c4 ?c5 ?_))
        case c1 => exact one_new w2 _ _ _
        case c2 => intro u hu; simp at hu; rcases hu with rfl | rfl <;> rfl
        case c3 => unfold maxLen; omega
        case c4 => omega
        case c5 => have hk2s := K2.out.size; simp at hk2s ⊢; omega
        · intro v' w3 hown3 hgrow _
          have hs2 := K2.out.size
          have hwr : w.heap.size + 2 ≤ w2.heap.size := by
            have : wr.heap.size + 1 ≤ w2.heap.size := by simpa using hs2
            omega
          have KA : Below (w.heap.size + 2) w2 w3 := Below.grown ((Below.refl _ w2).alloc hwr _) hgrow (by simp; omega) (fun z e => (own2.lt _ e).1)
          have RO : w3.ownsRow (w.heap.size + 2) 88 2 v' (j + 1) (flat ((ks.take (j + 1)).map ofN)) := by
            rw [HT.out, flat_append, List.map_take]; exact hown3
          have RK : Hid (Kp (some eb) w w3) := (HW1.out.trans K2.out).then (below_less KA (by omega))
          have RX : Hid (Bk w3 w.heap.size #[.int .i64 k, .int .i64 m, .int .i64 a, .int .i64 b, .bool g, .string n, .slice sa sl sc, .slice (some ⟨bb, off, none⟩) nk cap] 25) := (HX2.out.kp K2.out (fun e => by have := HE.out _ e.symm; omega)).keep KA (by omega)
          have RR : Hid (Bk w3 (w.heap.size + 1) #[.int .i64 0, .int .i64 0] 88) := (HR2.out.kp K2.out (fun e => by have := HE.out _ e.symm; omega)).keep KA (by omega)
          have RS : Hid (St (some eb) (stV (sb (badL (ks.take (j + 1))) s)) w3) := by
            have h0 := S2.out
            rw [HQ.out] at h0
            exact fun x e => by
              have hx := HE.out x e
              obtain ⟨y1, y2⟩ := h0 x e
              exact ⟨(KA.cell (p := ⟨x, 0, none⟩) (by simp only; omega)).trans y1, (World.frozen?_of_block (a := ⟨x, 0, none⟩) (KA.block x (by omega))).trans y2⟩
          have RZ : w.heap.size + 2 ≤ w3.heap.size := Nat.le_trans hwr KA.size
          clear hown3 hgrow own2 KA K2 S2 hs2 hwr HO HO2 HW1 HX2 HR2 HT HQ
          go_wp2
          go_roundw
          case rel => exact ⟨j + 1, by omega, by go_num, RO, RK, RX, RR, RS, RZ⟩
          case measure => simp [intOf]; omega
      · have hjn : j = nk := by omega
        subst hjn
        have htk : ks.take j = ks := List.take_of_length_le (by have := HL.out; omega)
        rw [htk] at hown HSr
        obtain ⟨ao2, cap2, rfl, hrv, hge⟩ := own_view hown (by rw [List.length_map]; exact HL.out)
        have C := HJ.out ao2 cap2 (sb (badL ks) s) wr hrv (fun x e _ => by have := hge x e; have := HE.out eb rfl; omega) (by omega) HSr.out
        obtain ⟨r, hr⟩ : ∃ r, takenA k a b (ks.map ofN) = r := ⟨_, rfl⟩
        obtain ⟨r1, r2⟩ := r
        rw [hr] at C
        have HF : Hid (ofN (.mk k m a b g n st ks) = (r1, r2)) := by unfold Hid; rw [ofN_mk, hr]
        have HF2 : Hid (sb (behind k m && !fits (only (ks.map ofN))) (sb (badL ks) s) = sb (badN (.mk k m a b g n st ks)) s) := by
          unfold Hid; rw [badN]; cases badL ks <;> cases (behind k m && !fits (only (ks.map ofN))) <;> rfl
        rw [HF2.out] at C
        have x0 := HXr.out.cell 0 (u := .int .i64 k) rfl
        have x1 := HXr.out.cell 1 (u := .int .i64 m) rfl
        have x2 := HXr.out.cell 2 (u := .int .i64 a) rfl
        have x3 := HXr.out.cell 3 (u := .int .i64 b) rfl
        have x4 := HXr.out.cell 4 (u := .bool g) rfl
        have x5 := HXr.out.cell 5 (u := .string n) rfl
        have x6 := HXr.out.cell 6 (u := .slice sa sl sc) rfl
        have x7 := HXr.out.cell 7 (u := .slice ao j cap) rfl
        simp only [Array.append_empty, List.push_append_toArray, List.append_toArray, List.cons_append, List.nil_append] at C
        clear hown HK HI HJ hr htk hrv HSr HXr
        go_wp2_with (go_at_call 46; refine C.mono ?_; rintro e w2 ⟨rfl, hs2, k2⟩; have K2 : Hid (Kp (some eb) wr w2) := k2; have S2 : Hid (St (some eb) _ w2) := hs2; have b0 := HRr.out.kp k2 (fun e => by have := HE.out _ e.symm; omega); have c0 := b0.cell 0 (u := .int .i64 0) rfl; have c1 := b0.cell 1 (u := .int .i64 0) rfl; have c2 := b0.frozen 0; have c3 := b0.frozen 1; have HR2 : Hid (Bk w2 (w.heap.size + 1) #[.int .i64 0, .int .i64 0] 88) := b0; clear hs2 k2 b0)
        refine bodyPost_ret (results_cell_row Tryz.results76 _ _ (w.heap.size + 1) _ #[.int .i64 r1, .int .i64 r2] _ _ rfl (HR2.out.set2 _ _) Tryz.underlying88 rfl infoAmount) rfl ?_
        refine ⟨by rw [HF.out], ?_, ?_⟩
        · exact fun x e => by
            have hx := HE.out x e
            obtain ⟨y1, y2⟩ := S2.out x e
            exact ⟨(cell_apart (by omega)).trans ((cell_apart (by omega)).trans y1), (frozen_apart (by omega)).trans ((frozen_apart (by omega)).trans y2)⟩
        · exact ((HD.out.trans K2.out).setCell (p := ⟨w.heap.size + 1, 0, none⟩) (.inl (by simp)) _).setCell (p := ⟨w.heap.size + 1, 1, none⟩) (.inl (by simp)) _
end Go.Proofs.YtjbcapnpknbbaaaGreat.wid
end

section
/- width.Bound. -/
set_option linter.unusedVariables false
set_option linter.unusedSimpArgs false
namespace Go.Proofs.YtjbcapnpknbbaaaGreat.wid
open Go.RowKit
open Go.Proofs.YtjbcapnpknbbaaaGreat.nod
open Go.Proofs.YtjbcapnpknbbaaaGreat.rng (R RV ret_int ret_bool below_drewN info_parts own_below' flat flat_append flat_length flat_get)

set_option maxRecDepth 10000 in
theorem up_bound (eb : Nat) (t : Nd) (v : Value) (s : Int) (B : Nat) (w : World) (hv : NV B w t v) (hB : B ≤ eb) (he : eb < w.heap.size) (hst : St (some eb) (stV s) w) (hs : t.sz ≤ 100000000) :
    Calls Tryz.prog 44 #[v, .func (.func 45) #[] #[], .func (.func 46) #[] #[.pointer (some ⟨eb, 0, none⟩)]] w fun e w' => e = .returned (agg2 (ofN t)) ∧ St (some eb) (stV (sb (badN t) s)) w' ∧ Kp (some eb) w w' := by
  obtain ⟨k, m, a, b, g, n, st, ks, sa, sc, ao, cap, rfl, rfl, _⟩ := hv.open
  generalize st.length = sl at *
  generalize ks.length = nk at *
  obtain ⟨r, hr⟩ : ∃ r, ofN (.mk k m a b g n st ks) = r := ⟨_, rfl⟩
  obtain ⟨r1, r2⟩ := r
  obtain ⟨q, hq⟩ : ∃ q, sb (badN (.mk k m a b g n st ks)) s = q := ⟨_, rfl⟩
  have C := from_bound eb _ _ _ 0 s B ((w.alloc (.cells #[.int .i64 k, .int .i64 m, .int .i64 a, .int .i64 b, .bool g, .string n, .slice sa sl sc, .slice ao nk cap] 25)).alloc (.cells #[.int .i64 0, .int .i64 0] 88)) (Nat.le_refl _) (hv.keep (below_less (below2 _ _ _) (by omega))) (by simp; omega) (fun x e => (by cases e; simp; omega)) (hst.keep (below2 _ _ _)) (by omega) (by omega)
  have HB : Hid (Below w.heap.size w ((w.alloc (.cells #[.int .i64 k, .int .i64 m, .int .i64 a, .int .i64 b, .bool g, .string n, .slice sa sl sc, .slice ao nk cap] 25)).alloc (.cells #[.int .i64 0, .int .i64 0] 88))) := below2 _ _ _
  have HR : Hid (Bk ((w.alloc (.cells #[.int .i64 k, .int .i64 m, .int .i64 a, .int .i64 b, .bool g, .string n, .slice sa sl sc, .slice ao nk cap] 25)).alloc (.cells #[.int .i64 0, .int .i64 0] 88)) (w.heap.size + 1) #[.int .i64 0, .int .i64 0] 88) := bk2
  rw [hr, hq] at C ⊢
  clear hv hr hq hst
  go_enter Tryz.func44, Tryz.ntmps44
  go_wp2_with (go_at_call 76; refine C.mono ?_; rintro e w1 ⟨rfl, s', d⟩; have b0 := HR.out.kp d (fun e => by cases e; omega); have c0 := b0.cell 0 (u := .int .i64 0) rfl; have c1 := b0.cell 1 (u := .int .i64 0) rfl; have c2 := b0.frozen 0; have c3 := b0.frozen 1; have HR2 : Hid (Bk w1 (w.heap.size + 1) #[.int .i64 0, .int .i64 0] 88) := b0; have HF : Hid (∀ X Y, Kp (some eb) w ((w1.setCell ⟨w.heap.size + 1, 0, none⟩ X).setCell ⟨w.heap.size + 1, 1, none⟩ Y)) := fun X Y => (((Kp.of_below HB.out).trans d).setCell (p := ⟨w.heap.size + 1, 0, none⟩) (.inl (by simp)) X).setCell (p := ⟨w.heap.size + 1, 1, none⟩) (.inl (by simp)) Y; have HS : Hid (St (some eb) (stV q) w1) := s'; clear d s' b0)
  refine bodyPost_ret (results_cell_row Tryz.results44 _ _ (w.heap.size + 1) _ #[.int .i64 r1, .int .i64 r2] _ _ rfl (HR2.out.set2 _ _) Tryz.underlying88 rfl infoAmount) rfl ?_
  refine ⟨rfl, fun x e => ?_, HF.out _ _⟩
  cases e
  obtain ⟨s1, s2⟩ := HS.out eb rfl
  exact ⟨(cell_apart (by omega)).trans ((cell_apart (by omega)).trans s1), (frozen_apart (by omega)).trans ((frozen_apart (by omega)).trans s2)⟩

def errW (b : Bool) : Int := if b then 191 else 0
theorem errW_sb (b : Bool) : sb b 0 = errW b := rfl
set_option maxRecDepth 10000 in
theorem bound_any (t : Nd) (v : Value) (w : World) (hv : NV w.heap.size w t v) (hs : t.sz ≤ 100000000) :
    Calls Tryz.prog 16 #[v] w fun e w' => e = .returned (.int .i64 (errW (badN t))) ∧ Below w.heap.size w w' := by
  obtain ⟨k, m, a, b, g, n, st, ks, sa, sc, ao, cap, rfl, rfl, _⟩ := hv.open
  generalize st.length = sl at *
  generalize ks.length = nk at *
  have C := up_bound (w.heap.size + 1) _ _ 0 w.heap.size ((w.alloc (.cells #[.int .i64 k, .int .i64 m, .int .i64 a, .int .i64 b, .bool g, .string n, .slice sa sl sc, .slice ao nk cap] 25)).alloc (.cells #[.int .i64 0] 35)) (hv.keep (below2 _ _ _)) (by omega) (by simp) (fun x e => (by cases e; exact ⟨bk2.cell 0 rfl, bk2.frozen 0⟩)) hs
  have HB : Hid (Below w.heap.size w ((w.alloc (.cells #[.int .i64 k, .int .i64 m, .int .i64 a, .int .i64 b, .bool g, .string n, .slice sa sl sc, .slice ao nk cap] 25)).alloc (.cells #[.int .i64 0] 35))) := below2 _ _ _
  rw [errW_sb] at C
  obtain ⟨q, hq⟩ : ∃ q, errW (badN (.mk k m a b g n st ks)) = q := ⟨_, rfl⟩
  rw [hq] at C ⊢
  clear hv hq
  go_enter Tryz.func16, Tryz.ntmps16
  go_wp2_with (go_at_call 44; refine C.mono ?_; rintro e w1 ⟨rfl, s', d⟩; have c0 := (s' (w.heap.size + 1) rfl).1; have HF : Hid (Below w.heap.size w w1) := HB.out.trans (d.below (by simp; omega) (fun x e => by cases e; omega)); clear d s')
  go_ret
  exact ⟨rfl, HF.out⟩
end Go.Proofs.YtjbcapnpknbbaaaGreat.wid
end
