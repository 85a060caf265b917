/- lower.Plain's closures, walk.from over them, lower.Plain. -/
import Derived.Test.YtjbcapnpknbbaaaGreatBndLowPl1
set_option linter.unusedVariables false
set_option linter.unusedSimpArgs false
namespace Go.Proofs.YtjbcapnpknbbaaaGreat.low
open Go.RowKit nod
open Go.Proofs.YtjbcapnpknbbaaaGreat.rng (R RV canB nxt ret_int ret_bool below_drewN info_parts own_below' get_lt take_get)

theorem infoBool : (Tryz.prog.info? 4).map (fun i => (i.zero, i.size, i.bytes)) = some (some (.bool false), 1, 1) := by kernel_rfl
theorem st_set {eb : Nat} {s u : Value} {w : World} (h : St (some eb) s w) : St (some eb) u (w.setCell ⟨eb, 0, none⟩ u) := fun x e => by
  cases e
  obtain ⟨h1, h2⟩ := h eb rfl
  exact ⟨cell_set h1, frozen_set h2⟩
set_option maxHeartbeats 4000000 in
set_option maxRecDepth 10000 in
theorem enter_pl (eb : Nat) (k m a b : Int) (g : Bool) (n : ByteArray) (sa : Option Addr) (st : List R) (sc : Nat) (ao : Option Addr) (nk cap : Nat) (above : Int) (p : Bool) (w : World) (hs : RV w sa st) (hsn : st.length ≤ 9223372036854775807) (hnk : nk ≤ 9223372036854775807) (he : eb < w.heap.size) (hst : St (some eb) (.bool p) w) :
    Calls Tryz.prog 34 #[.agg #[.int .i64 k, .int .i64 m, .int .i64 a, .int .i64 b, .bool g, .string n, .slice sa st.length sc, .slice ao nk cap], .int .i64 above, .pointer (some ⟨eb, 0, none⟩)] w fun e w' => e = .returned (.bool ((p && decide (above ≤ 400) && standP k m a b st nk) && kidsP k)) ∧ St (some eb) (.bool (p && decide (above ≤ 400) && standP k m a b st nk)) w' ∧ Kp (some eb) w w' := by
  have B1 : Below w.heap.size w (w.alloc (.cells #[.int .i64 k, .int .i64 m, .int .i64 a, .int .i64 b, .bool g, .string n, .slice sa st.length sc, .slice ao nk cap] 25)) := (Below.refl _ w).alloc (Nat.le_refl _) _
  have HB : Hid (Below w.heap.size w (w.alloc (.cells #[.int .i64 k, .int .i64 m, .int .i64 a, .int .i64 b, .bool g, .string n, .slice sa st.length sc, .slice ao nk cap] 25))) := B1
  have HX : Hid (Bk (w.alloc (.cells #[.int .i64 k, .int .i64 m, .int .i64 a, .int .i64 b, .bool g, .string n, .slice sa st.length sc, .slice ao nk cap] 25)) w.heap.size #[.int .i64 k, .int .i64 m, .int .i64 a, .int .i64 b, .bool g, .string n, .slice sa st.length sc, .slice ao nk cap] 25) := Bk.new w _ _
  have HS : Hid (St (some eb) (.bool p) (w.alloc (.cells #[.int .i64 k, .int .i64 m, .int .i64 a, .int .i64 b, .bool g, .string n, .slice sa st.length sc, .slice ao nk cap] 25))) := hst.keep B1
  have CS := stand_any k m a b g n sa st sc ao nk cap (w.alloc (.cells #[.int .i64 k, .int .i64 m, .int .i64 a, .int .i64 b, .bool g, .string n, .slice sa st.length sc, .slice ao nk cap] 25)) (hs.below B1) hsn hnk
  have CH := fun W => has_any k W
  obtain ⟨s1, s2⟩ := HS.out eb rfl
  obtain ⟨r1, r2⟩ := hst eb rfl
  have HW : Hid (St (some eb) (.bool p) w) := hst
  generalize standP k m a b st nk = x at *
  generalize kidsP k = y at *
  generalize st.length = sl at *
  clear hs hst B1
  have HN : Hid (w.heap.size ≠ eb) := by unfold Hid; omega
  cases p with
  | false =>
    have z1 : ((w.setCell ⟨eb, 0, none⟩ (.bool false)).alloc (.cells #[.int .i64 k, .int .i64 m, .int .i64 a, .int .i64 b, .bool g, .string n, .slice sa sl sc, .slice ao nk cap] 25)).cell? ⟨eb, 0, none⟩ = some (.bool false) := cell_past _ (cell_set r1)
    go_enter Tryz.func34, Tryz.ntmps34
    go_wp2
    go_ret
    exact ⟨rfl, (st_set HW.out).alloc _, ((Kp.refl (some eb) w).setCell (p := ⟨eb, 0, none⟩) (.inr rfl) _).alloc _⟩
  | true =>
    by_cases hab : above ≤ 400
    · rw [decide_eq_true hab]
      cases x with
      | false =>
        go_enter Tryz.func34, Tryz.ntmps34
        go_wp2_with (go_at_call 35; refine CS.mono ?_; rintro e w1 ⟨rfl, d⟩; have HS1 : Hid (St (some eb) (.bool true) w1) := HS.out.keep d; obtain ⟨s1, s2⟩ := HS1.out eb rfl; have HD : Hid (Below w.heap.size w w1) := HB.out.trans (below_less d (by simp)); have z1 : (w1.setCell ⟨eb, 0, none⟩ (.bool false)).cell? ⟨eb, 0, none⟩ = some (.bool false) := cell_set s1; clear d)
        go_ret
        exact ⟨rfl, st_set HS1.out, (Kp.of_below HD.out).setCell (p := ⟨eb, 0, none⟩) (.inr rfl) _⟩
      | true =>
        go_enter Tryz.func34, Tryz.ntmps34
        go_wp2_with (first
          | (go_at_call 35; refine CS.mono ?_; rintro e w1 ⟨rfl, d⟩; have HS1 : Hid (St (some eb) (.bool true) w1) := HS.out.keep d; obtain ⟨s1, s2⟩ := HS1.out eb rfl; have HD : Hid (Below w.heap.size w w1) := HB.out.trans (below_less d (by simp)); have z1 : (w1.setCell ⟨eb, 0, none⟩ (.bool true)).cell? ⟨eb, 0, none⟩ = some (.bool true) := cell_set s1; have z2 := ((HX.out.on d).apart (i := 0) HN.out (.bool true)).cell 0 (u := .int .i64 k) rfl; clear d)
          | (go_at_call 36; refine (CH _).mono ?_; rintro e w2 ⟨rfl, rfl⟩))
        go_ret
        exact ⟨rfl, st_set HS1.out, (Kp.of_below HD.out).setCell (p := ⟨eb, 0, none⟩) (.inr rfl) _⟩
    · rw [decide_eq_false hab]
      have z1 : ((w.setCell ⟨eb, 0, none⟩ (.bool false)).alloc (.cells #[.int .i64 k, .int .i64 m, .int .i64 a, .int .i64 b, .bool g, .string n, .slice sa sl sc, .slice ao nk cap] 25)).cell? ⟨eb, 0, none⟩ = some (.bool false) := cell_past _ (cell_set r1)
      go_enter Tryz.func34, Tryz.ntmps34
      go_wp2
      go_ret
      exact ⟨rfl, (st_set HW.out).alloc _, ((Kp.refl (some eb) w).setCell (p := ⟨eb, 0, none⟩) (.inr rfl) _).alloc _⟩
theorem join_pl (eb : Nat) (k m a b : Int) (g : Bool) (n : ByteArray) (sv kv ov : Value) (p : Bool) (w : World) (he : eb < w.heap.size) (hst : St (some eb) (.bool p) w) :
    Calls Tryz.prog 37 #[.agg #[.int .i64 k, .int .i64 m, .int .i64 a, .int .i64 b, .bool g, .string n, sv, kv], ov, .pointer (some ⟨eb, 0, none⟩)] w fun e w' => e = .returned (.bool p) ∧ St (some eb) (.bool p) w' ∧ Kp (some eb) w w' := by
  have HB : Hid (Below w.heap.size w (w.alloc (.cells #[.int .i64 k, .int .i64 m, .int .i64 a, .int .i64 b, .bool g, .string n, sv, kv] 25))) := (Below.refl _ w).alloc (Nat.le_refl _) _
  have HS : Hid (St (some eb) (.bool p) (w.alloc (.cells #[.int .i64 k, .int .i64 m, .int .i64 a, .int .i64 b, .bool g, .string n, sv, kv] 25))) := hst.keep HB.out
  obtain ⟨s1, s2⟩ := HS.out eb rfl
  clear hst
  go_enter Tryz.func37, Tryz.ntmps37
  go_wp2
  go_ret
  exact ⟨rfl, HS.out, Kp.of_below HB.out⟩

theorem len_szL : ∀ ks : List Nd, ks.length ≤ szL ks
  | [] => by simp [szL]
  | t :: ts => by
    have := len_szL ts
    have : 1 ≤ t.sz := by obtain ⟨k, m, a, b, g, n, s, ks⟩ := t; rw [Nd.sz]; omega
    rw [szL, List.length_cons]; omega
set_option maxRecDepth 10000 in
set_option maxHeartbeats 8000000 in
theorem from_pl (eb : Nat) : ∀ (N : Nat) (t : Nd) (v : Value) (above : Int) (p : Bool) (B : Nat) (w : World), t.sz ≤ N → NV B w t v → B ≤ eb → eb < w.heap.size → St (some eb) (.bool p) w → 0 ≤ above → above + N ≤ 1000000000 →
    Calls Tryz.prog 71 #[v, .int .i64 above, .func (.func 34) #[] #[.pointer (some ⟨eb, 0, none⟩)], .func (.func 37) #[] #[.pointer (some ⟨eb, 0, none⟩)]] w fun e w' => e = .returned (.bool (p && plN t above)) ∧ St (some eb) (.bool (p && plN t above)) w' ∧ Kp (some eb) w w' := by
  intro N
  induction N with
  | zero => intro t v above s B w h; obtain ⟨k, m, a, b, g, n, st, ks⟩ := t; rw [Nd.sz] at h; omega
  | succ N ih =>
    intro t v above p B w hN hv hBe heb hst ha1 ha2
    obtain ⟨k, m, a, b, g, n, st, ks, sa, sc, ao, cap, rfl, rfl, _, _, ⟨hrs, _, hs1, hs2, _⟩, hk1, hk2, _, hkv⟩ := hv.open
    rw [Nd.sz] at hN
    clear hv
    obtain ⟨nk, hnk⟩ : ∃ nk, ks.length = nk := ⟨_, rfl⟩
    have HL : Hid (ks.length = nk) := hnk
    have HN : Hid (szL ks ≤ N) := by unfold Hid; omega
    have hk3 : nk ≤ 1000000000 := by have := len_szL ks; omega
    have HK : Hid (KV B w ao ks) := hkv
    rw [hnk] at hk1 ⊢
    have HB : Hid (Below w.heap.size w (w.alloc (.cells #[.int .i64 k, .int .i64 m, .int .i64 a, .int .i64 b, .bool g, .string n, .slice sa st.length sc, .slice ao nk cap] 25))) := (Below.refl _ w).alloc (Nat.le_refl _) _
    have HX : Hid (Bk (w.alloc (.cells #[.int .i64 k, .int .i64 m, .int .i64 a, .int .i64 b, .bool g, .string n, .slice sa st.length sc, .slice ao nk cap] 25)) w.heap.size #[.int .i64 k, .int .i64 m, .int .i64 a, .int .i64 b, .bool g, .string n, .slice sa st.length sc, .slice ao nk cap] 25) := Bk.new w _ _
    have hZ : (w.alloc (.cells #[.int .i64 k, .int .i64 m, .int .i64 a, .int .i64 b, .bool g, .string n, .slice sa st.length sc, .slice ao nk cap] 25)).heap.size = w.heap.size + 1 := by simp
    have C1 := enter_pl eb k m a b g n sa st sc ao nk cap above p (w.alloc (.cells #[.int .i64 k, .int .i64 m, .int .i64 a, .int .i64 b, .bool g, .string n, .slice sa st.length sc, .slice ao nk cap] 25)) (hrs.below HB.out) (by unfold maxLen at hs2; omega) (by omega) (by omega) (hst.keep HB.out)
    have HP : Hid (plN (.mk k m a b g n st ks) above = (decide (above ≤ 400) && standP k m a b st nk && (!kidsP k || ks.all (fun t => plN t (above + 1))))) := by unfold Hid; rw [plN, plL_all, hnk]
    rw [HP.out]
    have HI : Hid (∀ (t : Nd) (v : Value) (q : Bool) (W : World), t ∈ ks → NV B W t v → w.heap.size ≤ W.heap.size → St (some eb) (.bool q) W → Calls Tryz.prog 71 #[v, .int .i64 (above + 1), .func (.func 34) #[] #[.pointer (some ⟨eb, 0, none⟩)], .func (.func 37) #[] #[.pointer (some ⟨eb, 0, none⟩)]] W fun e w' => e = .returned (.bool (q && plN t (above + 1))) ∧ St (some eb) (.bool (q && plN t (above + 1))) w' ∧ Kp (some eb) W w') := fun t v q W hm hv hs hst => by
      have := szL_mem hm
      exact ih t v (above + 1) q B W (by omega) hv hBe (by omega) hst (by omega) (by omega)
    obtain ⟨i0, hi, hz0, hz1, hz2⟩ := info_parts infoBool
    rw [Bool.and_assoc p] at C1
    generalize hQ : (decide (above ≤ 400) && standP k m a b st nk) = Q at *
    clear hQ HP hkv ih hN hnk hst hrs hs1 hs2
    generalize st.length = sl at *
    have HJ : Hid (∀ (ov : Value) (q : Bool) (W : World), eb < W.heap.size → St (some eb) (.bool q) W → Calls Tryz.prog 37 #[.agg #[.int .i64 k, .int .i64 m, .int .i64 a, .int .i64 b, .bool g, .string n, .slice sa sl sc, .slice ao nk cap], ov, .pointer (some ⟨eb, 0, none⟩)] W fun e w' => e = .returned (.bool q) ∧ St (some eb) (.bool q) w' ∧ Kp (some eb) W w') := fun ov q W h1 h2 => join_pl eb k m a b g n (.slice sa sl sc) (.slice ao nk cap) ov q W h1 h2
    generalize hpq : (p && Q) = r at *
    have HR : Hid ((p && Q) = r) := hpq
    clear hpq
    cases hy : (r && kidsP k) with
    | false =>
      rw [hy] at C1
      have HE : Hid ((p && (Q && (!kidsP k || ks.all fun t => plN t (above + 1)))) = r) := by
        unfold Hid
        rw [← Bool.and_assoc, HR.out]
        cases r
        · rfl
        · simp only [Bool.true_and] at hy ⊢
          rw [hy]; rfl
      rw [HE.out]
      clear hy HE HI HR HK HL HN
      go_enter Tryz.func71, Tryz.ntmps71
      go_wp2_with (first
        | (go_at_call 34; refine C1.mono ?_; rintro e w1 ⟨rfl, s1, d⟩; have HD : Hid (Kp (some eb) w w1) := (Kp.of_below HB.out).trans d; have HS1 : Hid (St (some eb) (.bool r) w1) := s1; have HX1 := HX.out.kp d (fun e => by cases e; omega); have x0 := HX1.cell 0 (u := .int .i64 k) rfl; have x1 := HX1.cell 1 (u := .int .i64 m) rfl; have x2 := HX1.cell 2 (u := .int .i64 a) rfl; have x3 := HX1.cell 3 (u := .int .i64 b) rfl; have x4 := HX1.cell 4 (u := .bool g) rfl; have x5 := HX1.cell 5 (u := .string n) rfl; have x6 := HX1.cell 6 (u := .slice sa sl sc) rfl; have x7 := HX1.cell 7 (u := .slice ao nk cap) rfl; clear d s1 HX1)
        | (go_at_call 37; refine (HJ.out _ r _ (by have := HD.out.size; omega) HS1.out).mono ?_; rintro e w2 ⟨rfl, s2, d2⟩; have HS2 : Hid (St (some eb) (.bool r) w2) := s2; have HD2 : Hid (Kp (some eb) w w2) := HD.out.trans d2; clear s2 d2))
      go_ret
      exact ⟨rfl, HS2.out, HD2.out⟩
    | true =>
      rw [hy] at C1
      obtain ⟨rfl, hkp⟩ : r = true ∧ kidsP k = true := by simpa using hy
      have HE : Hid ((p && (Q && (!kidsP k || ks.all fun t => plN t (above + 1)))) = ks.all fun t => plN t (above + 1)) := by
        unfold Hid
        rw [← Bool.and_assoc, HR.out, hkp]; rfl
      rw [HE.out]
      clear hy HE HR hkp
      go_enter Tryz.func71, Tryz.ntmps71
      go_wp2_with (go_at_call 34; refine C1.mono ?_; rintro e w1 ⟨rfl, s1, d⟩; have HD : Hid (Kp (some eb) w w1) := (Kp.of_below HB.out).trans d; have HS1 : Hid (St (some eb) (.bool true) w1) := s1; have HX1 : Hid (Bk w1 w.heap.size #[.int .i64 k, .int .i64 m, .int .i64 a, .int .i64 b, .bool g, .string n, .slice sa sl sc, .slice ao nk cap] 25) := HX.out.kp d (fun e => by cases e; omega); have q7 := HX1.out.cell 7 (u := .slice ao nk cap) rfl; clear d s1)
      have hw1 : w.heap.size + 1 ≤ w1.heap.size := HX1.out.lt
      have HO0 : Hid (w1.ownsRow (w.heap.size + 1) 4 1 (.slice none 0 0) 0 []) := World.ownsRow_nil _ _ _ _
      clear C1 HB HX
      go_loopw [9, 19] (fun vv i wr => ∃ (j : Nat) (xs : List Value), j ≤ nk ∧ i = .int .i64 j ∧ wr.ownsRow (w.heap.size + 1) 4 1 vv j xs ∧ Hid (Kp (some eb) w wr) ∧ Hid (Bk wr w.heap.size #[.int .i64 k, .int .i64 m, .int .i64 a, .int .i64 b, .bool g, .string n, .slice sa sl sc, .slice ao nk cap] 25) ∧ Hid (St (some eb) (.bool ((ks.take j).all fun t => plN t (above + 1))) wr) ∧ w.heap.size + 1 ≤ wr.heap.size) (fun _ i _ => nk - (intOf i).toNat)
      case atStart => exact ⟨0, [], Nat.zero_le _, rfl, HO0.out, HD, HX1, HS1, hw1⟩
      case round =>
        obtain ⟨j, xs, hj, rfl, hown, HDr, HXr, HSr, hsz⟩ := hrel
        clear HO0 HD HX1 HS1 hw1 q7
        by_cases hlt : j < nk
        · obtain ⟨t, ht⟩ := getX HL.out hlt
          obtain ⟨bb, off, rfl, hka⟩ := (HK.out.below (HDr.out.below (by omega) (fun x e => (by cases e; exact hBe)))).some (by have := HL.out; omega)
          obtain ⟨k', m', a', b', g', n', s', kk, sa', sc', ao', cap', rfl, ⟨e0, e1, e2, e3, e4, e5, e6, e7⟩, hv'⟩ := hka.kid ht
          have hmem := List.mem_of_getElem? ht
          have HT2 : Hid ((ks.take (j + 1)).all (fun t => plN t (above + 1)) = ((ks.take j).all (fun t => plN t (above + 1)) && plN (.mk k' m' a' b' g' n' s' kk) (above + 1))) := by unfold Hid; rw [takeX ht, List.all_append]; simp
          generalize s'.length = sl' at *
          generalize kk.length = nk' at *
          have W1 : Below wr.heap.size wr (wr.alloc (.cells #[.int .i64 k', .int .i64 m', .int .i64 a', .int .i64 b', .bool g', .string n', .slice sa' sl' sc', .slice ao' nk' cap'] 25)) := (Below.refl _ wr).alloc (Nat.le_refl _) _
          have C := HI.out _ _ ((ks.take j).all fun t => plN t (above + 1)) (wr.alloc (.cells #[.int .i64 k', .int .i64 m', .int .i64 a', .int .i64 b', .bool g', .string n', .slice sa' sl' sc', .slice ao' nk' cap'] 25)) hmem (hv'.keep (below_less W1 (by omega))) (by simp; omega) (HSr.out.alloc _)
          rw [← HT2.out] at C
          obtain ⟨q, hq⟩ : ∃ q, ((ks.take (j + 1)).all fun t => plN t (above + 1)) = q := ⟨_, rfl⟩
          rw [hq] at C
          have HQ : Hid (((ks.take (j + 1)).all fun t => plN t (above + 1)) = q) := hq
          clear hq HT2
          have HW1 : Hid (Kp (some eb) w (wr.alloc (.cells #[.int .i64 k', .int .i64 m', .int .i64 a', .int .i64 b', .bool g', .string n', .slice sa' sl' sc', .slice ao' nk' cap'] 25))) := HDr.out.alloc _
          have HX2 : Hid (Bk (wr.alloc (.cells #[.int .i64 k', .int .i64 m', .int .i64 a', .int .i64 b', .bool g', .string n', .slice sa' sl' sc', .slice ao' nk' cap'] 25)) w.heap.size #[.int .i64 k, .int .i64 m, .int .i64 a, .int .i64 b, .bool g, .string n, .slice sa sl sc, .slice (some ⟨bb, off, none⟩) nk cap] 25) := HXr.out.past _
          have HO2 : Hid ((wr.alloc (.cells #[.int .i64 k', .int .i64 m', .int .i64 a', .int .i64 b', .bool g', .string n', .slice sa' sl' sc', .slice ao' nk' cap'] 25)).ownsRow (w.heap.size + 1) 4 1 u9 j xs) := hown.alloc _
          clear hown hka hv' ht hmem W1 HDr HXr HI HSr
          go_wp2_with (first
            | (go_at_call 71; refine C.mono ?_; rintro e w2 ⟨rfl, hs2, k2⟩; have K2 : Hid (Kp (some eb) (wr.alloc (.cells #[.int .i64 k', .int .i64 m', .int .i64 a', .int .i64 b', .bool g', .string n', .slice sa' sl' sc', .slice ao' nk' cap'] 25)) w2) := k2; have S2 : Hid (St (some eb) (.bool q) w2) := hs2; have own2 := own_kp HO2.out k2 (fun x e => by cases e; omega); clear hs2 k2)
            | (at_builtin; refine wpList_append_own _ rfl _ _ 80 rfl (w.heap.size + 1) 4 i0 (.bool false) 1 1 Tryz.underlying80 hi hz0 hz1 hz2 rfl (by decide) _ _ _ rfl (own2.alloc _) ⟨w2.heap.size, 0, none⟩ 1 1 [.bool q] rfl rfl ?c1 ?c2 ?c3 ?c4 ?c5 ?_))
          case c1 => intro i u hu; match i, hu with
            | 0, hu => simp at hu; subst hu; simp [Addr.add]
            | i + 1, hu => simp at hu
          case c2 => intro u hu; simp at hu; subst hu; rfl
          case c3 => unfold maxLen; omega
          case c4 => omega
          case c5 => have hk2s := K2.out.size; simp at hk2s ⊢; omega
          · intro v' w3 hown3 hgrow _
            have hs2 := K2.out.size
            have hwr : w.heap.size + 1 ≤ w2.heap.size := by
              have : wr.heap.size + 1 ≤ w2.heap.size := by simpa using hs2
              omega
            have KA : Below (w.heap.size + 1) w2 w3 := Below.grown ((Below.refl _ w2).alloc hwr _) hgrow (by simp; omega) (fun z e => (own2.lt _ e).1)
            have RK : Hid (Kp (some eb) w w3) := (HW1.out.trans K2.out).then (below_less KA (by omega))
            have RX : Hid (Bk w3 w.heap.size #[.int .i64 k, .int .i64 m, .int .i64 a, .int .i64 b, .bool g, .string n, .slice sa sl sc, .slice (some ⟨bb, off, none⟩) nk cap] 25) := (HX2.out.kp K2.out (fun e => by cases e; omega)).keep KA (by omega)
            have RS : Hid (St (some eb) (.bool q) w3) := by
              have h0 := S2.out
              exact fun x e => by
                cases e
                obtain ⟨y1, y2⟩ := h0 eb rfl
                exact ⟨(KA.cell (p := ⟨eb, 0, none⟩) (by simp only; omega)).trans y1, (World.frozen?_of_block (a := ⟨eb, 0, none⟩) (KA.block eb (by omega))).trans y2⟩
            have RZ : w.heap.size + 1 ≤ w3.heap.size := Nat.le_trans hwr KA.size
            have RO := hown3
            clear hgrow own2 KA K2 S2 hs2 hwr HO2 HW1 HX2 C hown3
            go_wp2
            go_roundw
            case rel => exact ⟨j + 1, _, by omega, by go_num, RO, RK, RX, (by unfold Hid; rw [HQ.out]; exact RS.out), RZ⟩
            case measure => simp [intOf]; omega
        · have hjn : j = nk := by omega
          subst hjn
          have htk : ks.take j = ks := List.take_of_length_le (by have := HL.out; omega)
          rw [htk] at HSr
          obtain ⟨ao2, ln2, cap2, rfl⟩ : ∃ ao n cap, u9 = .slice ao n cap := by
            rcases hown.2 with ⟨rfl, _⟩ | ⟨g', cap, cur, rfl, _⟩
            · exact ⟨_, _, _, rfl⟩
            · exact ⟨_, _, _, rfl⟩
          obtain ⟨q, hq⟩ : ∃ q, (ks.all fun t => plN t (above + 1)) = q := ⟨_, rfl⟩
          rw [hq] at HSr
          have HQ : Hid ((ks.all fun t => plN t (above + 1)) = q) := hq
          clear hq
          have C := HJ.out (.slice ao2 ln2 cap2) q wr (by omega) HSr.out
          have HX1 := HXr.out
          have x0 := HX1.cell 0 (u := .int .i64 k) rfl
          have x1 := HX1.cell 1 (u := .int .i64 m) rfl
          have x2 := HX1.cell 2 (u := .int .i64 a) rfl
          have x3 := HX1.cell 3 (u := .int .i64 b) rfl
          have x4 := HX1.cell 4 (u := .bool g) rfl
          have x5 := HX1.cell 5 (u := .string n) rfl
          have x6 := HX1.cell 6 (u := .slice sa sl sc) rfl
          have x7 := HX1.cell 7 (u := .slice ao j cap) rfl
          clear hown HK HI HJ htk HSr HXr HX1
          go_wp2_with (go_at_call 37; refine C.mono ?_; rintro e w2 ⟨rfl, s2, d2⟩; have HS2 : Hid (St (some eb) (.bool q) w2) := s2; have HD2 : Hid (Kp (some eb) w w2) := HDr.out.trans d2; clear s2 d2)
          go_ret
          exact ⟨ret_bool HQ.out.symm, by rw [HQ.out]; exact HS2.out, HD2.out⟩
theorem up_pl (eb : Nat) (t : Nd) (v : Value) (p : Bool) (B : Nat) (w : World) (hv : NV B w t v) (hB : B ≤ eb) (he : eb < w.heap.size) (hst : St (some eb) (.bool p) w) (hs : t.sz ≤ 100000000) :
    Calls Tryz.prog 33 #[v, .func (.func 34) #[] #[.pointer (some ⟨eb, 0, none⟩)], .func (.func 37) #[] #[.pointer (some ⟨eb, 0, none⟩)]] w fun e w' => e = .returned (.bool (p && plN t 0)) ∧ Kp (some eb) w w' := by
  obtain ⟨k, m, a, b, g, n, st, ks, sa, sc, ao, cap, rfl, rfl, _⟩ := hv.open
  generalize st.length = sl at *
  generalize ks.length = nk at *
  have HB : Hid (Below w.heap.size w (w.alloc (.cells #[.int .i64 k, .int .i64 m, .int .i64 a, .int .i64 b, .bool g, .string n, .slice sa sl sc, .slice ao nk cap] 25))) := (Below.refl _ w).alloc (Nat.le_refl _) _
  have C := from_pl eb _ _ _ 0 p B (w.alloc (.cells #[.int .i64 k, .int .i64 m, .int .i64 a, .int .i64 b, .bool g, .string n, .slice sa sl sc, .slice ao nk cap] 25)) (Nat.le_refl _) (hv.keep (below_less HB.out (by omega))) hB (by simp; omega) (hst.keep HB.out) (by omega) (by omega)
  generalize (p && plN (.mk k m a b g n st ks) 0) = q at *
  clear hv hst
  go_enter Tryz.func33, Tryz.ntmps33
  go_wp2_with (go_at_call 71; refine C.mono ?_; rintro e w1 ⟨rfl, s', d⟩; have HF : Hid (Kp (some eb) w w1) := (Kp.of_below HB.out).trans d; clear d s')
  go_ret
  exact ⟨rfl, HF.out⟩
set_option maxRecDepth 10000 in
theorem plain_any (t : Nd) (v : Value) (w : World) (hv : NV w.heap.size w t v) (hs : t.sz ≤ 100000000) :
    Calls Tryz.prog 13 #[v] w fun e w' => e = .returned (.bool (plN t 0)) ∧ Below w.heap.size w w' := by
  obtain ⟨k, m, a, b, g, n, st, ks, sa, sc, ao, cap, rfl, rfl, _⟩ := hv.open
  generalize st.length = sl at *
  generalize ks.length = nk at *
  have HB : Hid (Below w.heap.size w ((w.alloc (.cells #[.int .i64 k, .int .i64 m, .int .i64 a, .int .i64 b, .bool g, .string n, .slice sa sl sc, .slice ao nk cap] 25)).alloc (.cells #[.bool true] 4))) := below2 _ _ _
  have C := up_pl (w.heap.size + 1) _ _ true w.heap.size ((w.alloc (.cells #[.int .i64 k, .int .i64 m, .int .i64 a, .int .i64 b, .bool g, .string n, .slice sa sl sc, .slice ao nk cap] 25)).alloc (.cells #[.bool true] 4)) (hv.keep (below2 _ _ _)) (by omega) (by simp) (fun x e => (by cases e; exact ⟨bk2.cell 0 rfl, bk2.frozen 0⟩)) hs
  rw [Bool.true_and] at C
  generalize plN (.mk k m a b g n st ks) 0 = q at *
  clear hv
  go_enter Tryz.func13, Tryz.ntmps13
  go_wp2_with (go_at_call 33; refine C.mono ?_; rintro e w1 ⟨rfl, d⟩; have HF : Hid (Below w.heap.size w w1) := HB.out.trans (d.below (by simp; omega) (fun x e => by cases e; omega)); clear d)
  go_ret
  exact ⟨rfl, HF.out⟩
end Go.Proofs.YtjbcapnpknbbaaaGreat.low
