/- Texts that the proof leans on, one behind the other. -/
import Derived.Test.YtinlolmjafjhnaaGreatDoorBdLow3
import Derived.Test.YtinlolmjafjhnaaGreatDoorBdRng4
import Derived.Deep.LoopGhost
import Derived.Deep.CutBlock
import Derived.Test.YtinlolmjafjhnaaGreatDoorBdNod1

section
/- lower.Plain's closures, walk.from over them, lower.Plain. -/
set_option linter.unusedVariables false
set_option linter.unusedSimpArgs false
namespace Go.Proofs.YtinlolmjafjhnaaGreatDoor.low
open Go.RowKit nod
open Go.Proofs.YtinlolmjafjhnaaGreatDoor.rng (R RV canB nxt ret_int ret_bool below_drewN info_parts own_below' get_lt take_get)

theorem infoBool : (Tryz.prog.info? 4).map (fun i => (i.zero, i.size, i.bytes)) = some (some (.bool false), 1, 1) := by kernel_rfl
theorem st_set {eb : Nat} {s u : Value} {w : World} (h : St (some eb) s w) : St (some eb) u (w.setCell ⟨eb, 0, none⟩ u) := fun x e => by
  cases e
  obtain ⟨h1, h2⟩ := h eb rfl
  exact ⟨cell_set h1, frozen_set h2⟩
set_option maxHeartbeats 4000000 in
set_option maxRecDepth 10000 in
theorem enter_pl (eb : Nat) (k m a b : Int) (g : Bool) (n : ByteArray) (sa : Option Addr) (st : List R) (sc : Nat) (ao : Option Addr) (nk cap : Nat) (above : Int) (p : Bool) (w : World) (hs : RV w sa st) (hsn : st.length ≤ 9223372036854775807) (hnk : nk ≤ 9223372036854775807) (he : eb < w.heap.size) (hst : St (some eb) (.bool p) w) :
    Calls Tryz.prog 14 #[.agg #[.int .i64 k, .int .i64 m, .int .i64 a, .int .i64 b, .bool g, .string n, .slice sa st.length sc, .slice ao nk cap], .int .i64 above, .pointer (some ⟨eb, 0, none⟩)] w fun e w' => e = .returned (.bool ((p && decide (above ≤ 400) && standP k m a b st nk) && kidsP k)) ∧ St (some eb) (.bool (p && decide (above ≤ 400) && standP k m a b st nk)) w' ∧ Kp (some eb) w w' := by
  have B1 : Below w.heap.size w (w.alloc (.cells #[.int .i64 k, .int .i64 m, .int .i64 a, .int .i64 b, .bool g, .string n, .slice sa st.length sc, .slice ao nk cap] 25)) := (Below.refl _ w).alloc (Nat.le_refl _) _
  have HB : Hid (Below w.heap.size w (w.alloc (.cells #[.int .i64 k, .int .i64 m, .int .i64 a, .int .i64 b, .bool g, .string n, .slice sa st.length sc, .slice ao nk cap] 25))) := B1
  have HX : Hid (Bk (w.alloc (.cells #[.int .i64 k, .int .i64 m, .int .i64 a, .int .i64 b, .bool g, .string n, .slice sa st.length sc, .slice ao nk cap] 25)) w.heap.size #[.int .i64 k, .int .i64 m, .int .i64 a, .int .i64 b, .bool g, .string n, .slice sa st.length sc, .slice ao nk cap] 25) := Bk.new w _ _
  have HS : Hid (St (some eb) (.bool p) (w.alloc (.cells #[.int .i64 k, .int .i64 m, .int .i64 a, .int .i64 b, .bool g, .string n, .slice sa st.length sc, .slice ao nk cap] 25))) := hst.keep B1
  have CS := stand_any k m a b g n sa st sc ao nk cap (w.alloc (.cells #[.int .i64 k, .int .i64 m, .int .i64 a, .int .i64 b, .bool g, .string n, .slice sa st.length sc, .slice ao nk cap] 25)) (hs.below B1) hsn hnk
  have CH := fun W => has_any k W
  obtain ⟨s1, s2⟩ := HS.out eb rfl
  obtain ⟨r1, r2⟩ := hst eb rfl
  have HW : Hid (St (some eb) (.bool p) w) := hst
  generalize standP k m a b st nk = x at *
  generalize kidsP k = y at *
  generalize st.length = sl at *
  clear hs hst B1
  have HN : Hid (w.heap.size ≠ eb) := by unfold Hid; omega
  cases p with
  | false =>
    have z1 : ((w.setCell ⟨eb, 0, none⟩ (.bool false)).alloc (.cells #[.int .i64 k, .int .i64 m, .int .i64 a, .int .i64 b, .bool g, .string n, .slice sa sl sc, .slice ao nk cap] 25)).cell? ⟨eb, 0, none⟩ = some (.bool false) := cell_past _ (cell_set r1)
    go_enter Tryz.func14, Tryz.ntmps14
    go_wp2
    go_ret
    exact ⟨rfl, (st_set HW.out).alloc _, ((Kp.refl (some eb) w).setCell (p := ⟨eb, 0, none⟩) (.inr rfl) _).alloc _⟩
  | true =>
    by_cases hab : above ≤ 400
    · rw [decide_eq_true hab]
      cases x with
      | false =>
        go_enter Tryz.func14, Tryz.ntmps14
        go_wp2_with (go_at_call 15; refine CS.mono ?_; rintro e w1 ⟨rfl, d⟩; have HS1 : Hid (St (some eb) (.bool true) w1) := HS.out.keep d; obtain ⟨s1, s2⟩ := HS1.out eb rfl; have HD : Hid (Below w.heap.size w w1) := HB.out.trans (below_less d (by simp)); have z1 : (w1.setCell ⟨eb, 0, none⟩ (.bool false)).cell? ⟨eb, 0, none⟩ = some (.bool false) := cell_set s1; clear d)
        go_ret
        exact ⟨rfl, st_set HS1.out, (Kp.of_below HD.out).setCell (p := ⟨eb, 0, none⟩) (.inr rfl) _⟩
      | true =>
        go_enter Tryz.func14, Tryz.ntmps14
        go_wp2_with (first
          | (go_at_call 15; refine CS.mono ?_; rintro e w1 ⟨rfl, d⟩; have HS1 : Hid (St (some eb) (.bool true) w1) := HS.out.keep d; obtain ⟨s1, s2⟩ := HS1.out eb rfl; have HD : Hid (Below w.heap.size w w1) := HB.out.trans (below_less d (by simp)); have z1 : (w1.setCell ⟨eb, 0, none⟩ (.bool true)).cell? ⟨eb, 0, none⟩ = some (.bool true) := cell_set s1; have z2 := ((HX.out.on d).apart (i := 0) HN.out (.bool true)).cell 0 (u := .int .i64 k) rfl; clear d)
          | (go_at_call 16; refine (CH _).mono ?_; rintro e w2 ⟨rfl, rfl⟩))
        go_ret
        exact ⟨rfl, st_set HS1.out, (Kp.of_below HD.out).setCell (p := ⟨eb, 0, none⟩) (.inr rfl) _⟩
    · rw [decide_eq_false hab]
      have z1 : ((w.setCell ⟨eb, 0, none⟩ (.bool false)).alloc (.cells #[.int .i64 k, .int .i64 m, .int .i64 a, .int .i64 b, .bool g, .string n, .slice sa sl sc, .slice ao nk cap] 25)).cell? ⟨eb, 0, none⟩ = some (.bool false) := cell_past _ (cell_set r1)
      go_enter Tryz.func14, Tryz.ntmps14
      go_wp2
      go_ret
      exact ⟨rfl, (st_set HW.out).alloc _, ((Kp.refl (some eb) w).setCell (p := ⟨eb, 0, none⟩) (.inr rfl) _).alloc _⟩
theorem join_pl (eb : Nat) (k m a b : Int) (g : Bool) (n : ByteArray) (sv kv ov : Value) (p : Bool) (w : World) (he : eb < w.heap.size) (hst : St (some eb) (.bool p) w) :
    Calls Tryz.prog 17 #[.agg #[.int .i64 k, .int .i64 m, .int .i64 a, .int .i64 b, .bool g, .string n, sv, kv], ov, .pointer (some ⟨eb, 0, none⟩)] w fun e w' => e = .returned (.bool p) ∧ St (some eb) (.bool p) w' ∧ Kp (some eb) w w' := by
  have HB : Hid (Below w.heap.size w (w.alloc (.cells #[.int .i64 k, .int .i64 m, .int .i64 a, .int .i64 b, .bool g, .string n, sv, kv] 25))) := (Below.refl _ w).alloc (Nat.le_refl _) _
  have HS : Hid (St (some eb) (.bool p) (w.alloc (.cells #[.int .i64 k, .int .i64 m, .int .i64 a, .int .i64 b, .bool g, .string n, sv, kv] 25))) := hst.keep HB.out
  obtain ⟨s1, s2⟩ := HS.out eb rfl
  clear hst
  go_enter Tryz.func17, Tryz.ntmps17
  go_wp2
  go_ret
  exact ⟨rfl, HS.out, Kp.of_below HB.out⟩

theorem len_szL : ∀ ks : List Nd, ks.length ≤ szL ks
  | [] => by simp [szL]
  | t :: ts => by
    have := len_szL ts
    have : 1 ≤ t.sz := by obtain ⟨k, m, a, b, g, n, s, ks⟩ := t; rw [Nd.sz]; omega
    rw [szL, List.length_cons]; omega
set_option maxRecDepth 10000 in
set_option maxHeartbeats 8000000 in
theorem from_pl (eb : Nat) : ∀ (N : Nat) (t : Nd) (v : Value) (above : Int) (p : Bool) (B : Nat) (w : World), t.sz ≤ N → NV B w t v → B ≤ eb → eb < w.heap.size → St (some eb) (.bool p) w → 0 ≤ above → above + N ≤ 1000000000 →
    Calls Tryz.prog 40 #[v, .int .i64 above, .func (.func 14) #[] #[.pointer (some ⟨eb, 0, none⟩)], .func (.func 17) #[] #[.pointer (some ⟨eb, 0, none⟩)]] w fun e w' => e = .returned (.bool (p && plN t above)) ∧ St (some eb) (.bool (p && plN t above)) w' ∧ Kp (some eb) w w' := by
  intro N
  induction N with
  | zero => intro t v above s B w h; obtain ⟨k, m, a, b, g, n, st, ks⟩ := t; rw [Nd.sz] at h; omega
  | succ N ih =>
    intro t v above p B w hN hv hBe heb hst ha1 ha2
    obtain ⟨k, m, a, b, g, n, st, ks, sa, sc, ao, cap, rfl, rfl, _, _, ⟨hrs, _, hs1, hs2, _⟩, hk1, hk2, _, hkv⟩ := hv.open
    rw [Nd.sz] at hN
    clear hv
    obtain ⟨nk, hnk⟩ : ∃ nk, ks.length = nk := ⟨_, rfl⟩
    have HL : Hid (ks.length = nk) := hnk
    have HN : Hid (szL ks ≤ N) := by unfold Hid; omega
    have hk3 : nk ≤ 1000000000 := by have := len_szL ks; omega
    have HK : Hid (KV B w ao ks) := hkv
    rw [hnk] at hk1 ⊢
    have HB : Hid (Below w.heap.size w (w.alloc (.cells #[.int .i64 k, .int .i64 m, .int .i64 a, .int .i64 b, .bool g, .string n, .slice sa st.length sc, .slice ao nk cap] 25))) := (Below.refl _ w).alloc (Nat.le_refl _) _
    have HX : Hid (Bk (w.alloc (.cells #[.int .i64 k, .int .i64 m, .int .i64 a, .int .i64 b, .bool g, .string n, .slice sa st.length sc, .slice ao nk cap] 25)) w.heap.size #[.int .i64 k, .int .i64 m, .int .i64 a, .int .i64 b, .bool g, .string n, .slice sa st.length sc, .slice ao nk cap] 25) := Bk.new w _ _
    have hZ : (w.alloc (.cells #[.int .i64 k, .int .i64 m, .int .i64 a, .int .i64 b, .bool g, .string n, .slice sa st.length sc, .slice ao nk cap] 25)).heap.size = w.heap.size + 1 := by simp
    have C1 := enter_pl eb k m a b g n sa st sc ao nk cap above p (w.alloc (.cells #[.int .i64 k, .int .i64 m, .int .i64 a, .int .i64 b, .bool g, .string n, .slice sa st.length sc, .slice ao nk cap] 25)) (hrs.below HB.out) (by unfold maxLen at hs2; omega) (by omega) (by omega) (hst.keep HB.out)
    have HP : Hid (plN (.mk k m a b g n st ks) above = (decide (above ≤ 400) && standP k m a b st nk && (!kidsP k || ks.all (fun t => plN t (above + 1))))) := by unfold Hid; rw [plN, plL_all, hnk]
    rw [HP.out]
    have HI : Hid (∀ (t : Nd) (v : Value) (q : Bool) (W : World), t ∈ ks → NV B W t v → w.heap.size ≤ W.heap.size → St (some eb) (.bool q) W → Calls Tryz.prog 40 #[v, .int .i64 (above + 1), .func (.func 14) #[] #[.pointer (some ⟨eb, 0, none⟩)], .func (.func 17) #[] #[.pointer (some ⟨eb, 0, none⟩)]] W fun e w' => e = .returned (.bool (q && plN t (above + 1))) ∧ St (some eb) (.bool (q && plN t (above + 1))) w' ∧ Kp (some eb) W w') := fun t v q W hm hv hs hst => by
      have := szL_mem hm
      exact ih t v (above + 1) q B W (by omega) hv hBe (by omega) hst (by omega) (by omega)
    obtain ⟨i0, hi, hz0, hz1, hz2⟩ := info_parts infoBool
    rw [Bool.and_assoc p] at C1
    generalize hQ : (decide (above ≤ 400) && standP k m a b st nk) = Q at *
    clear hQ HP hkv ih hN hnk hst hrs hs1 hs2
    generalize st.length = sl at *
    have HJ : Hid (∀ (ov : Value) (q : Bool) (W : World), eb < W.heap.size → St (some eb) (.bool q) W → Calls Tryz.prog 17 #[.agg #[.int .i64 k, .int .i64 m, .int .i64 a, .int .i64 b, .bool g, .string n, .slice sa sl sc, .slice ao nk cap], ov, .pointer (some ⟨eb, 0, none⟩)] W fun e w' => e = .returned (.bool q) ∧ St (some eb) (.bool q) w' ∧ Kp (some eb) W w') := fun ov q W h1 h2 => join_pl eb k m a b g n (.slice sa sl sc) (.slice ao nk cap) ov q W h1 h2
    generalize hpq : (p && Q) = r at *
    have HR : Hid ((p && Q) = r) := hpq
    clear hpq
    cases hy : (r && kidsP k) with
    | false =>
      rw [hy] at C1
      have HE : Hid ((p && (Q && (!kidsP k || ks.all fun t => plN t (above + 1)))) = r) := by
        unfold Hid
        rw [← Bool.and_assoc, HR.out]
        cases r
        · rfl
        · simp only [Bool.true_and] at hy ⊢
          rw [hy]; rfl
      rw [HE.out]
      clear hy HE HI HR HK HL HN
      go_enter Tryz.func40, Tryz.ntmps40
      go_wp2_with (first
        | (go_at_call 14; refine C1.mono ?_; rintro e w1 ⟨rfl, s1, d⟩; have HD : Hid (Kp (some eb) w w1) := (Kp.of_below HB.out).trans d; have HS1 : Hid (St (some eb) (.bool r) w1) := s1; have HX1 := HX.out.kp d (fun e => by cases e; omega); have x0 := HX1.cell 0 (u := .int .i64 k) rfl; have x1 := HX1.cell 1 (u := .int .i64 m) rfl; have x2 := HX1.cell 2 (u := .int .i64 a) rfl; have x3 := HX1.cell 3 (u := .int .i64 b) rfl; have x4 := HX1.cell 4 (u := .bool g) rfl; have x5 := HX1.cell 5 (u := .string n) rfl; have x6 := HX1.cell 6 (u := .slice sa sl sc) rfl; have x7 := HX1.cell 7 (u := .slice ao nk cap) rfl; clear d s1 HX1)
        | (go_at_call 17; refine (HJ.out _ r _ (by have := HD.out.size; omega) HS1.out).mono ?_; rintro e w2 ⟨rfl, s2, d2⟩; have HS2 : Hid (St (some eb) (.bool r) w2) := s2; have HD2 : Hid (Kp (some eb) w w2) := HD.out.trans d2; clear s2 d2))
      go_ret
      exact ⟨rfl, HS2.out, HD2.out⟩
    | true =>
      rw [hy] at C1
      obtain ⟨rfl, hkp⟩ : r = true ∧ kidsP k = true := by simpa using hy
      have HE : Hid ((p && (Q && (!kidsP k || ks.all fun t => plN t (above + 1)))) = ks.all fun t => plN t (above + 1)) := by
        unfold Hid
        rw [← Bool.and_assoc, HR.out, hkp]; rfl
      rw [HE.out]
      clear hy HE HR hkp
      go_enter Tryz.func40, Tryz.ntmps40
      go_wp2_with (go_at_call 14; refine C1.mono ?_; rintro e w1 ⟨rfl, s1, d⟩; have HD : Hid (Kp (some eb) w w1) := (Kp.of_below HB.out).trans d; have HS1 : Hid (St (some eb) (.bool true) w1) := s1; have HX1 : Hid (Bk w1 w.heap.size #[.int .i64 k, .int .i64 m, .int .i64 a, .int .i64 b, .bool g, .string n, .slice sa sl sc, .slice ao nk cap] 25) := HX.out.kp d (fun e => by cases e; omega); have q7 := HX1.out.cell 7 (u := .slice ao nk cap) rfl; clear d s1)
      have hw1 : w.heap.size + 1 ≤ w1.heap.size := HX1.out.lt
      have HO0 : Hid (w1.ownsRow (w.heap.size + 1) 4 1 (.slice none 0 0) 0 []) := World.ownsRow_nil _ _ _ _
      clear C1 HB HX
      go_loopw [9, 19] (fun vv i wr => ∃ (j : Nat) (xs : List Value), j ≤ nk ∧ i = .int .i64 j ∧ wr.ownsRow (w.heap.size + 1) 4 1 vv j xs ∧ Hid (Kp (some eb) w wr) ∧ Hid (Bk wr w.heap.size #[.int .i64 k, .int .i64 m, .int .i64 a, .int .i64 b, .bool g, .string n, .slice sa sl sc, .slice ao nk cap] 25) ∧ Hid (St (some eb) (.bool ((ks.take j).all fun t => plN t (above + 1))) wr) ∧ w.heap.size + 1 ≤ wr.heap.size) (fun _ i _ => nk - (intOf i).toNat)
      case atStart => exact ⟨0, [], Nat.zero_le _, rfl, HO0.out, HD, HX1, HS1, hw1⟩
      case round =>
        obtain ⟨j, xs, hj, rfl, hown, HDr, HXr, HSr, hsz⟩ := hrel
        clear HO0 HD HX1 HS1 hw1 q7
        by_cases hlt : j < nk
        · obtain ⟨t, ht⟩ := getX HL.out hlt
          obtain ⟨bb, off, rfl, hka⟩ := (HK.out.below (HDr.out.below (by omega) (fun x e => (by cases e; exact hBe)))).some (by have := HL.out; omega)
          obtain ⟨k', m', a', b', g', n', s', kk, sa', sc', ao', cap', rfl, ⟨e0, e1, e2, e3, e4, e5, e6, e7⟩, hv'⟩ := hka.kid ht
          have hmem := List.mem_of_getElem? ht
          have HT2 : Hid ((ks.take (j + 1)).all (fun t => plN t (above + 1)) = ((ks.take j).all (fun t => plN t (above + 1)) && plN (.mk k' m' a' b' g' n' s' kk) (above + 1))) := by unfold Hid; rw [takeX ht, List.all_append]; simp
          generalize s'.length = sl' at *
          generalize kk.length = nk' at *
          have W1 : Below wr.heap.size wr (wr.alloc (.cells #[.int .i64 k', .int .i64 m', .int .i64 a', .int .i64 b', .bool g', .string n', .slice sa' sl' sc', .slice ao' nk' cap'] 25)) := (Below.refl _ wr).alloc (Nat.le_refl _) _
          have C := HI.out _ _ ((ks.take j).all fun t => plN t (above + 1)) (wr.alloc (.cells #[.int .i64 k', .int .i64 m', .int .i64 a', .int .i64 b', .bool g', .string n', .slice sa' sl' sc', .slice ao' nk' cap'] 25)) hmem (hv'.keep (below_less W1 (by omega))) (by simp; omega) (HSr.out.alloc _)
          rw [← HT2.out] at C
          obtain ⟨q, hq⟩ : ∃ q, ((ks.take (j + 1)).all fun t => plN t (above + 1)) = q := ⟨_, rfl⟩
          rw [hq] at C
          have HQ : Hid (((ks.take (j + 1)).all fun t => plN t (above + 1)) = q) := hq
          clear hq HT2
          have HW1 : Hid (Kp (some eb) w (wr.alloc (.cells #[.int .i64 k', .int .i64 m', .int .i64 a', .int .i64 b', .bool g', .string n', .slice sa' sl' sc', .slice ao' nk' cap'] 25))) := HDr.out.alloc _
          have HX2 : Hid (Bk (wr.alloc (.cells #[.int .i64 k', .int .i64 m', .int .i64 a', .int .i64 b', .bool g', .string n', .slice sa' sl' sc', .slice ao' nk' cap'] 25)) w.heap.size #[.int .i64 k, .int .i64 m, .int .i64 a, .int .i64 b, .bool g, .string n, .slice sa sl sc, .slice (some ⟨bb, off, none⟩) nk cap] 25) := HXr.out.past _
          have HO2 : Hid ((wr.alloc (.cells #[.int .i64 k', .int .i64 m', .int .i64 a', .int .i64 b', .bool g', .string n', .slice sa' sl' sc', .slice ao' nk' cap'] 25)).ownsRow (w.heap.size + 1) 4 1 u9 j xs) := hown.alloc _
          clear hown hka hv' ht hmem W1 HDr HXr HI HSr
          go_wp2_with (first
            | (go_at_call 40; refine C.mono ?_; rintro e w2 ⟨rfl, hs2, k2⟩; have K2 : Hid (Kp (some eb) (wr.alloc (.cells #[.int .i64 k', .int .i64 m', .int .i64 a', .int .i64 b', .bool g', .string n', .slice sa' sl' sc', .slice ao' nk' cap'] 25)) w2) := k2; have S2 : Hid (St (some eb) (.bool q) w2) := hs2; have own2 := own_kp HO2.out k2 (fun x e => by cases e; omega); clear hs2 k2)
            | (at_builtin; refine wpList_append_own _ rfl _ _ 56 rfl (w.heap.size + 1) 4 i0 (.bool false) 1 1 Tryz.underlying56 hi hz0 hz1 hz2 rfl (by decide) _ _ _ rfl (own2.alloc _) ⟨w2.heap.size, 0, none⟩ 1 1 [.bool q] rfl rfl ?c1 ?c2 ?c3 ?c4 ?c5 ?_))
          case c1 => intro i u hu; match i, hu with
            | 0, hu => simp at hu; subst hu; simp [Addr.add]
            | i + 1, hu => simp at hu
          case c2 => intro u hu; simp at hu; subst hu; rfl
          case c3 => unfold maxLen; omega
          case c4 => omega
          case c5 => have hk2s := K2.out.size; simp at hk2s ⊢; omega
          · intro v' w3 hown3 hgrow _
            have hs2 := K2.out.size
            have hwr : w.heap.size + 1 ≤ w2.heap.size := by
              have : wr.heap.size + 1 ≤ w2.heap.size := by simpa using hs2
              omega
            have KA : Below (w.heap.size + 1) w2 w3 := Below.grown ((Below.refl _ w2).alloc hwr _) hgrow (by simp; omega) (fun z e => (own2.lt _ e).1)
            have RK : Hid (Kp (some eb) w w3) := (HW1.out.trans K2.out).then (below_less KA (by omega))
            have RX : Hid (Bk w3 w.heap.size #[.int .i64 k, .int .i64 m, .int .i64 a, .int .i64 b, .bool g, .string n, .slice sa sl sc, .slice (some ⟨bb, off, none⟩) nk cap] 25) := (HX2.out.kp K2.out (fun e => by cases e; omega)).keep KA (by omega)
            have RS : Hid (St (some eb) (.bool q) w3) := by
              have h0 := S2.out
              exact fun x e => by
                cases e
                obtain ⟨y1, y2⟩ := h0 eb rfl
                exact ⟨(KA.cell (p := ⟨eb, 0, none⟩) (by simp only; omega)).trans y1, (World.frozen?_of_block (a := ⟨eb, 0, none⟩) (KA.block eb (by omega))).trans y2⟩
            have RZ : w.heap.size + 1 ≤ w3.heap.size := Nat.le_trans hwr KA.size
            have RO := hown3
            clear hgrow own2 KA K2 S2 hs2 hwr HO2 HW1 HX2 C hown3
            go_wp2
            go_roundw
            case rel => exact ⟨j + 1, _, by omega, by go_num, RO, RK, RX, (by unfold Hid; rw [HQ.out]; exact RS.out), RZ⟩
            case measure => simp [intOf]; omega
        · have hjn : j = nk := by omega
          subst hjn
          have htk : ks.take j = ks := List.take_of_length_le (by have := HL.out; omega)
          rw [htk] at HSr
          obtain ⟨ao2, ln2, cap2, rfl⟩ : ∃ ao n cap, u9 = .slice ao n cap := by
            rcases hown.2 with ⟨rfl, _⟩ | ⟨g', cap, cur, rfl, _⟩
            · exact ⟨_, _, _, rfl⟩
            · exact ⟨_, _, _, rfl⟩
          obtain ⟨q, hq⟩ : ∃ q, (ks.all fun t => plN t (above + 1)) = q := ⟨_, rfl⟩
          rw [hq] at HSr
          have HQ : Hid ((ks.all fun t => plN t (above + 1)) = q) := hq
          clear hq
          have C := HJ.out (.slice ao2 ln2 cap2) q wr (by omega) HSr.out
          have HX1 := HXr.out
          have x0 := HX1.cell 0 (u := .int .i64 k) rfl
          have x1 := HX1.cell 1 (u := .int .i64 m) rfl
          have x2 := HX1.cell 2 (u := .int .i64 a) rfl
          have x3 := HX1.cell 3 (u := .int .i64 b) rfl
          have x4 := HX1.cell 4 (u := .bool g) rfl
          have x5 := HX1.cell 5 (u := .string n) rfl
          have x6 := HX1.cell 6 (u := .slice sa sl sc) rfl
          have x7 := HX1.cell 7 (u := .slice ao j cap) rfl
          clear hown HK HI HJ htk HSr HXr HX1
          go_wp2_with (go_at_call 17; refine C.mono ?_; rintro e w2 ⟨rfl, s2, d2⟩; have HS2 : Hid (St (some eb) (.bool q) w2) := s2; have HD2 : Hid (Kp (some eb) w w2) := HDr.out.trans d2; clear s2 d2)
          go_ret
          exact ⟨ret_bool HQ.out.symm, by rw [HQ.out]; exact HS2.out, HD2.out⟩
theorem up_pl (eb : Nat) (t : Nd) (v : Value) (p : Bool) (B : Nat) (w : World) (hv : NV B w t v) (hB : B ≤ eb) (he : eb < w.heap.size) (hst : St (some eb) (.bool p) w) (hs : t.sz ≤ 100000000) :
    Calls Tryz.prog 13 #[v, .func (.func 14) #[] #[.pointer (some ⟨eb, 0, none⟩)], .func (.func 17) #[] #[.pointer (some ⟨eb, 0, none⟩)]] w fun e w' => e = .returned (.bool (p && plN t 0)) ∧ Kp (some eb) w w' := by
  obtain ⟨k, m, a, b, g, n, st, ks, sa, sc, ao, cap, rfl, rfl, _⟩ := hv.open
  generalize st.length = sl at *
  generalize ks.length = nk at *
  have HB : Hid (Below w.heap.size w (w.alloc (.cells #[.int .i64 k, .int .i64 m, .int .i64 a, .int .i64 b, .bool g, .string n, .slice sa sl sc, .slice ao nk cap] 25))) := (Below.refl _ w).alloc (Nat.le_refl _) _
  have C := from_pl eb _ _ _ 0 p B (w.alloc (.cells #[.int .i64 k, .int .i64 m, .int .i64 a, .int .i64 b, .bool g, .string n, .slice sa sl sc, .slice ao nk cap] 25)) (Nat.le_refl _) (hv.keep (below_less HB.out (by omega))) hB (by simp; omega) (hst.keep HB.out) (by omega) (by omega)
  generalize (p && plN (.mk k m a b g n st ks) 0) = q at *
  clear hv hst
  go_enter Tryz.func13, Tryz.ntmps13
  go_wp2_with (go_at_call 40; refine C.mono ?_; rintro e w1 ⟨rfl, s', d⟩; have HF : Hid (Kp (some eb) w w1) := (Kp.of_below HB.out).trans d; clear d s')
  go_ret
  exact ⟨rfl, HF.out⟩
set_option maxRecDepth 10000 in
theorem plain_any (t : Nd) (v : Value) (w : World) (hv : NV w.heap.size w t v) (hs : t.sz ≤ 100000000) :
    Calls Tryz.prog 7 #[v] w fun e w' => e = .returned (.bool (plN t 0)) ∧ Below w.heap.size w w' := by
  obtain ⟨k, m, a, b, g, n, st, ks, sa, sc, ao, cap, rfl, rfl, _⟩ := hv.open
  generalize st.length = sl at *
  generalize ks.length = nk at *
  have HB : Hid (Below w.heap.size w ((w.alloc (.cells #[.int .i64 k, .int .i64 m, .int .i64 a, .int .i64 b, .bool g, .string n, .slice sa sl sc, .slice ao nk cap] 25)).alloc (.cells #[.bool true] 4))) := below2 _ _ _
  have C := up_pl (w.heap.size + 1) _ _ true w.heap.size ((w.alloc (.cells #[.int .i64 k, .int .i64 m, .int .i64 a, .int .i64 b, .bool g, .string n, .slice sa sl sc, .slice ao nk cap] 25)).alloc (.cells #[.bool true] 4)) (hv.keep (below2 _ _ _)) (by omega) (by simp) (fun x e => (by cases e; exact ⟨bk2.cell 0 rfl, bk2.frozen 0⟩)) hs
  rw [Bool.true_and] at C
  generalize plN (.mk k m a b g n st ks) 0 = q at *
  clear hv
  go_enter Tryz.func7, Tryz.ntmps7
  go_wp2_with (go_at_call 13; refine C.mono ?_; rintro e w1 ⟨rfl, d⟩; have HF : Hid (Below w.heap.size w w1) := HB.out.trans (d.below (by simp; omega) (fun x e => by cases e; omega)); clear d)
  go_ret
  exact ⟨rfl, HF.out⟩
end Go.Proofs.YtinlolmjafjhnaaGreatDoor.low
end

section
/- Whether a tree is one of sets: the document's answer, at any node. -/
set_option linter.unusedVariables false
set_option linter.unusedSimpArgs false
namespace Go.Proofs.YtinlolmjafjhnaaGreatDoor.low
open Go.RowKit nod
open Go.Proofs.YtinlolmjafjhnaaGreatDoor.rng (R RV canB nxt ret_int ret_bool below_drewN info_parts own_below' get_lt take_get)

mutual
/-- No set of the tree is longer than what memory holds. -/
def setsN : Nd → Prop
  | .mk _ _ _ _ _ _ s ks => s.length ≤ 8796093021952 ∧ setsL ks
def setsL : List Nd → Prop
  | [] => True
  | t :: ts => setsN t ∧ setsL ts
end
theorem sets_mem {t : Nd} : ∀ {ks : List Nd}, setsL ks → t ∈ ks → setsN t
  | x :: ks, h, hm => by
    rw [setsL] at h
    rcases List.mem_cons.1 hm with rfl | hm
    · exact h.1
    · exact sets_mem h.2 hm
theorem kids_of {k : Int} (h : kidsP k = true) : k = 6 ∨ k = 7 ∨ k = 8 ∨ k = 9 ∨ k = 10 ∨ k = 11 := by simpa [kidsP] using h
set_option maxRecDepth 100000 in
set_option maxHeartbeats 16000000 in
theorem rkids_any (k m a b : Int) (g : Bool) (n : ByteArray) (sa : Option Addr) (st : List R) (sl sc : Nat) (ao : Option Addr) (nk cap : Nat) (ks : List Nd) (d : Int) (B : Nat) (w : World)
    (hk : kidsP k = true) (hd1 : 0 ≤ d) (hd2 : d ≤ 400) (HL : Hid (ks.length = nk)) (hk3 : nk ≤ 1000000000) (hBw : B ≤ w.heap.size) (HK : Hid (KV B w ao ks))
    (HI : Hid (∀ (t : Nd) (v : Value) (W : World), t ∈ ks → NV B W t v → w.heap.size ≤ W.heap.size → Calls Tryz.prog 18 #[v, .int .i64 (d + 1)] W fun e w' => e = .returned (.bool (plN t (d + 1))) ∧ Below W.heap.size W w')) :
    Calls Tryz.prog 18 #[.agg #[.int .i64 k, .int .i64 m, .int .i64 a, .int .i64 b, .bool g, .string n, .slice sa sl sc, .slice ao nk cap], .int .i64 d] w fun e w' => e = .returned (.bool (standP k m a b st nk && ks.all fun t => plN t (d + 1))) ∧ Below w.heap.size w w' := by
  have HB : Hid (Below w.heap.size w (w.alloc (.cells #[.int .i64 k, .int .i64 m, .int .i64 a, .int .i64 b, .bool g, .string n, .slice sa sl sc, .slice ao nk cap] 25))) := (Below.refl _ w).alloc (Nat.le_refl _) _
  obtain ⟨q, hq⟩ : ∃ q, standP k m a b st nk = q := ⟨_, rfl⟩
  have HQ : Hid (standP k m a b st nk = q) := hq
  rw [hq]
  clear hq
  have hd3 : ¬ d > 400 := by omega
  have HKP : Hid (kidsP k = true) := hk
  obtain ⟨o1, ho1⟩ : ∃ o1 : Bool, ((nk : Int) == 1) = o1 := ⟨_, rfl⟩
  have HO1 : Hid (((nk : Int) == 1) = o1) := ho1
  clear hk
  go_enter Tryz.func18, Tryz.ntmps18
  go_upto_block 0 with fail
  go_cut [6] from 15 to 120 (fun s6 wx => s6 = .bool q ∧ wx = (w.alloc (.cells #[.int .i64 k, .int .i64 m, .int .i64 a, .int .i64 b, .bool g, .string n, .slice sa sl sc, .slice ao nk cap] 25)))
  case first =>
    clear HI HK HB ho1
    have HN1 : Hid (o1 = decide (nk = 1)) := by unfold Hid; rw [← HO1.out, Bool.eq_iff_iff]; simp; omega
    clear HO1
    by_cases hb : b = -1
    case pos =>
      subst hb
      rcases kids_of HKP.out with rfl | rfl | rfl | rfl | rfl | rfl
      all_goals
        cases o1
        all_goals
          go_wp2
          all_goals
            go_meet
            case rel => exact ⟨congrArg Value.bool (by have h1 := HN1.out; have h2 := HQ.out; (simp [standP, repP, wi] at h1 h2) <;> first | exact h2 | exact h2.symm | (rw [← h2]; done) | (simp [*]; done) | (rw [← h2]; simp [*]; done) | (rw [← h2]; simp [*]; omega)), rfl⟩
    case neg =>
      have fb : (b == -1) = false := by simpa using hb
      rcases kids_of HKP.out with rfl | rfl | rfl | rfl | rfl | rfl
      all_goals
        cases o1
        all_goals
          go_wp2
          all_goals
            go_meet
            case rel => exact ⟨congrArg Value.bool (by have h1 := HN1.out; have h2 := HQ.out; (simp [standP, repP, wi, fb] at h1 h2) <;> first | exact h2 | exact h2.symm | (rw [← h2]; done) | (simp [*]; done) | (rw [← h2]; simp [*]; done) | (rw [← h2]; simp [*]; omega)), rfl⟩
  case rest =>
    obtain ⟨rfl, rfl⟩ := hcut
    clear ho1 HO1 HQ
    go_wp2
    go_loopg [6, 124] nk (fun gk v6 i wr => ∃ (j : Nat), j + gk = nk ∧ i = .int .i64 j ∧ v6 = .bool (q && (ks.take j).all fun t => plN t (d + 1)) ∧ Hid (Below w.heap.size w wr))
    case atStart => exact ⟨0, by omega, rfl, by simp, HB⟩
    case round =>
      obtain ⟨j, hj, rfl, rfl, HBr⟩ := hrel
      clear HB
      by_cases hlt : j < nk
      · obtain ⟨t, ht⟩ := getX HL.out hlt
        obtain ⟨bb, off, rfl, hka⟩ := (HK.out.below (below_less HBr.out hBw)).some (by have := HL.out; omega)
        obtain ⟨k', m', a', b', g', n', s', kk, sa', sc', ao', cap', rfl, ⟨e0, e1, e2, e3, e4, e5, e6, e7⟩, hv'⟩ := hka.kid ht
        have hmem := List.mem_of_getElem? ht
        have HT2 : Hid ((ks.take (j + 1)).all (fun t => plN t (d + 1)) = ((ks.take j).all (fun t => plN t (d + 1)) && plN (.mk k' m' a' b' g' n' s' kk) (d + 1))) := by unfold Hid; rw [takeX ht, List.all_append]; simp
        generalize s'.length = sl' at *
        generalize kk.length = nk' at *
        have W1 : Below wr.heap.size wr (wr.alloc (.cells #[.int .i64 k', .int .i64 m', .int .i64 a', .int .i64 b', .bool g', .string n', .slice sa' sl' sc', .slice ao' nk' cap'] 25)) := (Below.refl _ wr).alloc (Nat.le_refl _) _
        have hsz := HBr.out.size
        have HB1 : Hid (Below w.heap.size w (wr.alloc (.cells #[.int .i64 k', .int .i64 m', .int .i64 a', .int .i64 b', .bool g', .string n', .slice sa' sl' sc', .slice ao' nk' cap'] 25))) := HBr.out.trans (below_less W1 hsz)
        have C := HI.out _ _ (wr.alloc (.cells #[.int .i64 k', .int .i64 m', .int .i64 a', .int .i64 b', .bool g', .string n', .slice sa' sl' sc', .slice ao' nk' cap'] 25)) hmem (hv'.keep (below_less W1 (by omega))) (by simp; omega)
        obtain ⟨x, hx⟩ : ∃ x, plN (.mk k' m' a' b' g' n' s' kk) (d + 1) = x := ⟨_, rfl⟩
        obtain ⟨y, hy⟩ : ∃ y, (q && (ks.take j).all fun t => plN t (d + 1)) = y := ⟨_, rfl⟩
        rw [hx] at C HT2
        have HQ : Hid ((q && (ks.take (j + 1)).all fun t => plN t (d + 1)) = (y && x)) := by unfold Hid; rw [HT2.out, ← Bool.and_assoc, hy]
        rw [hy]
        clear hka hv' ht hmem W1 hx hy HT2 HBr HI HKP
        cases y with
        | false =>
          clear C
          go_wp2
          go_roundg (gk - 1)
          case measure => omega
          case rel => exact ⟨j + 1, by omega, by go_num, by rw [HQ.out]; rfl, HB1⟩
        | true =>
          go_wp2_with (go_at_call 18; refine C.mono ?_; rintro e w2 ⟨rfl, b2⟩; have HB2 : Hid (Below w.heap.size w w2) := HB1.out.trans (below_less b2 (by simp; omega)); clear b2)
          go_roundg (gk - 1)
          case measure => omega
          case rel => exact ⟨j + 1, by omega, by go_num, by rw [HQ.out]; rfl, HB2⟩
      · have hjn : j = nk := by omega
        have htk : ks.take j = ks := List.take_of_length_le (by have := HL.out; omega)
        rw [htk]
        obtain ⟨y, hy⟩ : ∃ y, (q && ks.all fun t => plN t (d + 1)) = y := ⟨_, rfl⟩
        have HY : Hid ((q && ks.all fun t => plN t (d + 1)) = y) := hy
        rw [hy]
        clear htk HI HK HKP hy
        go_wp2
        go_ret
        exact ⟨ret_bool HY.out.symm, HBr.out⟩
set_option maxRecDepth 100000 in
set_option maxHeartbeats 16000000 in
theorem rplain_any : ∀ (N : Nat) (t : Nd) (v : Value) (d : Int) (B : Nat) (w : World), t.sz ≤ N → NV B w t v → B ≤ w.heap.size → 0 ≤ d → d + N ≤ 1000000000 → setsN t →
    Calls Tryz.prog 18 #[v, .int .i64 d] w fun e w' => e = .returned (.bool (plN t d)) ∧ Below w.heap.size w w' := by
  intro N
  induction N with
  | zero => intro t v d B w h; obtain ⟨k, m, a, b, g, n, st, ks⟩ := t; rw [Nd.sz] at h; omega
  | succ N ih =>
    intro t v d B w hN hv hBw hd1 hd2 hsets
    obtain ⟨k, m, a, b, g, n, st, ks, sa, sc, ao, cap, rfl, rfl, _, _, ⟨hrs, _, hs1, hs2, hs3⟩, hk1, hk2, _, hkv⟩ := hv.open
    rw [Nd.sz] at hN
    rw [setsN] at hsets
    clear hv
    obtain ⟨nk, hnk⟩ : ∃ nk, ks.length = nk := ⟨_, rfl⟩
    have HL : Hid (ks.length = nk) := hnk
    have hk3 : nk ≤ 1000000000 := by have := len_szL ks; omega
    have HK : Hid (KV B w ao ks) := hkv
    rw [hnk] at hk1 ⊢
    have HBx : Below w.heap.size w (w.alloc (.cells #[.int .i64 k, .int .i64 m, .int .i64 a, .int .i64 b, .bool g, .string n, .slice sa st.length sc, .slice ao nk cap] 25)) := (Below.refl _ w).alloc (Nat.le_refl _) _
    have HP0 : Hid (plN (.mk k m a b g n st ks) d = (decide (d ≤ 400) && standP k m a b st nk && (!kidsP k || ks.all (fun t => plN t (d + 1))))) := by unfold Hid; rw [plN, plL_all, hnk]
    have HI : Hid (∀ (t : Nd) (v : Value) (W : World), t ∈ ks → NV B W t v → w.heap.size ≤ W.heap.size → Calls Tryz.prog 18 #[v, .int .i64 (d + 1)] W fun e w' => e = .returned (.bool (plN t (d + 1))) ∧ Below W.heap.size W w') := fun t v W hm hv hs => by
      have := szL_mem hm
      exact ih t v (d + 1) B W (by omega) hv (by omega) (by omega) (by omega) (sets_mem hsets.2 hm)
    have CC := rng.rcan_any sa sc st (w.alloc (.cells #[.int .i64 k, .int .i64 m, .int .i64 a, .int .i64 b, .bool g, .string n, .slice sa st.length sc, .slice ao nk cap] 25)) hsets.1 (hrs.below HBx) hs3
    clear hkv ih hN hnk hrs hs1 hs2 hsets
    generalize hC : canB 0 st = x15 at *
    have HC : Hid (canB 0 st = x15) := hC
    clear hC
    generalize st.length = sl at *
    have HB : Hid (Below w.heap.size w (w.alloc (.cells #[.int .i64 k, .int .i64 m, .int .i64 a, .int .i64 b, .bool g, .string n, .slice sa sl sc, .slice ao nk cap] 25))) := HBx
    clear HBx
    by_cases hdd : d ≤ 400
    · have hd3 : ¬ d > 400 := by omega
      by_cases hkd : kidsP k = true
      · have C := rkids_any k m a b g n sa st sl sc ao nk cap ks d B w hkd hd1 hdd HL hk3 hBw HK HI
        have e : plN (.mk k m a b g n st ks) d = (standP k m a b st nk && ks.all fun t => plN t (d + 1)) := by rw [HP0.out, decide_eq_true hdd, hkd]; simp
        rw [e]; exact C
      by_cases c15 : k = 15
      · subst c15
        have HE : Hid (plN (.mk 15 m a b g n st ks) d = x15) := by unfold Hid; rw [HP0.out, decide_eq_true hdd]; simp [standP, kidsP, HC.out]
        clear HP0 HI HK HC hdd hkd
        go_enter Tryz.func18, Tryz.ntmps18
        go_wp2_with (go_at_call 44; refine CC.mono ?_; rintro e w1 ⟨rfl, b1⟩; have HF : Hid (Below w.heap.size w w1) := HB.out.trans (below_less b1 (by simp)); clear b1)
        go_ret
        exact ⟨ret_bool HE.out.symm, HF.out⟩
      by_cases c12 : k = 12
      · subst c12
        have HE : Hid (plN (.mk 12 m a b g n st ks) d = wi m 1 10) := by unfold Hid; rw [HP0.out, decide_eq_true hdd]; simp [standP, kidsP]
        clear HP0 HI HK HC CC hdd hkd
        by_cases h1 : m ≥ 1
        · by_cases h2 : m ≤ 10
          · have HF : Hid (wi m 1 10 = true) := by unfold Hid wi; simp; omega
            go_enter Tryz.func18, Tryz.ntmps18
            go_wp2
            go_ret
            exact ⟨ret_bool (by rw [HE.out, HF.out]), HB.out⟩
          · have HF : Hid (wi m 1 10 = false) := by unfold Hid wi; simp; omega
            go_enter Tryz.func18, Tryz.ntmps18
            go_wp2
            go_ret
            exact ⟨ret_bool (by rw [HE.out, HF.out]), HB.out⟩
        · have HF : Hid (wi m 1 10 = false) := by unfold Hid wi; simp; omega
          go_enter Tryz.func18, Tryz.ntmps18
          go_wp2
          go_ret
          exact ⟨ret_bool (by rw [HE.out, HF.out]), HB.out⟩
      by_cases c13 : k = 13
      · subst c13
        have HE : Hid (plN (.mk 13 m a b g n st ks) d = wi a 1 20) := by unfold Hid; rw [HP0.out, decide_eq_true hdd]; simp [standP, kidsP]
        clear HP0 HI HK HC CC hdd hkd
        by_cases h1 : a ≥ 1
        · by_cases h2 : a ≤ 20
          · have HF : Hid (wi a 1 20 = true) := by unfold Hid wi; simp; omega
            go_enter Tryz.func18, Tryz.ntmps18
            go_wp2
            go_ret
            exact ⟨ret_bool (by rw [HE.out, HF.out]), HB.out⟩
          · have HF : Hid (wi a 1 20 = false) := by unfold Hid wi; simp; omega
            go_enter Tryz.func18, Tryz.ntmps18
            go_wp2
            go_ret
            exact ⟨ret_bool (by rw [HE.out, HF.out]), HB.out⟩
        · have HF : Hid (wi a 1 20 = false) := by unfold Hid wi; simp; omega
          go_enter Tryz.func18, Tryz.ntmps18
          go_wp2
          go_ret
          exact ⟨ret_bool (by rw [HE.out, HF.out]), HB.out⟩
      by_cases c14 : k = 14
      · subst c14
        have HE : Hid (plN (.mk 14 m a b g n st ks) d = true) := by unfold Hid; rw [HP0.out, decide_eq_true hdd]; simp [standP, kidsP]
        clear HP0 HI HK HC CC hdd hkd
        go_enter Tryz.func18, Tryz.ntmps18
        go_wp2
        go_ret
        exact ⟨ret_bool HE.out.symm, HB.out⟩
      have hn6 : ¬ (k = 6 ∨ k = 7 ∨ k = 8 ∨ k = 9 ∨ k = 10 ∨ k = 11) := by simpa [kidsP] using hkd
      have HE : Hid (plN (.mk k m a b g n st ks) d = false) := by
        have a6 : ¬ (k = 6 ∨ k = 14) := by omega
        have a7 : ¬ k = 7 := by omega
        have a8 : ¬ k = 8 := by omega
        have a9 : ¬ k = 9 := by omega
        have a10 : ¬ k = 10 := by omega
        have a11 : ¬ k = 11 := by omega
        unfold Hid; rw [HP0.out]; unfold standP; rw [if_neg c15, if_neg a6, if_neg a7, if_neg a8, if_neg a9, if_neg a10, if_neg a11, if_neg c12, if_neg c13]; simp
      have f15 : (k == 15) = false := by simpa using c15
      have f12 : (k == 12) = false := by simpa using c12
      have f13 : (k == 13) = false := by simpa using c13
      have f14 : (k == 14) = false := by simpa using c14
      have f6 : (k == 6) = false := by simp; omega
      have f7 : (k == 7) = false := by simp; omega
      have f8 : (k == 8) = false := by simp; omega
      have f9 : (k == 9) = false := by simp; omega
      have f10 : (k == 10) = false := by simp; omega
      have f11 : (k == 11) = false := by simp; omega
      clear HP0 HI HK HC CC hdd hkd hn6 c15 c12 c13 c14
      go_enter Tryz.func18, Tryz.ntmps18
      go_wp2
      go_ret
      exact ⟨ret_bool HE.out.symm, HB.out⟩
    · have hd3 : d > 400 := by omega
      have HE : Hid (plN (.mk k m a b g n st ks) d = false) := by unfold Hid; rw [HP0.out, decide_eq_false hdd]; rfl
      clear HP0 HI HK CC hdd
      go_enter Tryz.func18, Tryz.ntmps18
      go_wp2
      go_ret
      exact ⟨ret_bool HE.out.symm, HB.out⟩
theorem rPlain_any (t : Nd) (v : Value) (w : World) (hv : NV w.heap.size w t v) (hs : t.sz ≤ 100000000) (hq : setsN t) :
    Calls Tryz.prog 8 #[v] w fun e w' => e = .returned (.bool (plN t 0)) ∧ Below w.heap.size w w' := by
  obtain ⟨k, m, a, b, g, n, st, ks, sa, sc, ao, cap, rfl, rfl, _⟩ := hv.open
  generalize st.length = sl at *
  generalize ks.length = nk at *
  have HB : Hid (Below w.heap.size w (w.alloc (.cells #[.int .i64 k, .int .i64 m, .int .i64 a, .int .i64 b, .bool g, .string n, .slice sa sl sc, .slice ao nk cap] 25))) := (Below.refl _ w).alloc (Nat.le_refl _) _
  have C := rplain_any _ _ _ 0 w.heap.size (w.alloc (.cells #[.int .i64 k, .int .i64 m, .int .i64 a, .int .i64 b, .bool g, .string n, .slice sa sl sc, .slice ao nk cap] 25)) (Nat.le_refl _) (hv.keep HB.out) (by simp) (by omega) (by omega) hq
  generalize plN (.mk k m a b g n st ks) 0 = q at *
  clear hv hq
  go_enter Tryz.func8, Tryz.ntmps8
  go_wp2_with (go_at_call 18; refine C.mono ?_; rintro e w1 ⟨rfl, d⟩; have HF : Hid (Below w.heap.size w w1) := HB.out.trans (below_less d (by simp)); clear d)
  go_ret
  exact ⟨rfl, HF.out⟩
end Go.Proofs.YtinlolmjafjhnaaGreatDoor.low
end

section
/- The walk of LowerPlain. -/
set_option linter.unusedVariables false
set_option linter.unusedSimpArgs false
namespace Go.Proofs.YtinlolmjafjhnaaGreatDoor.low
open Go.RowKit nod
open Go.Proofs.YtinlolmjafjhnaaGreatDoor.cls (i64s)

theorem mixed : Tryz.prog.follows .mixedOrders = true := by kernel_rfl
def zC : Nd := .mk 14 0 0 0 false ⟨#[]⟩ [] []
theorem nv_zC (W : World) : NV W.heap.size W zC (.agg #[.int .i64 14, .int .i64 0, .int .i64 0, .int .i64 0, .bool false, .string ⟨#[]⟩, .slice none 0 0, .slice none 0 0]) := nv_leaf W.heap.size W 14 0 0 0 false ⟨#[]⟩ (i64s (by decide) (by decide)) (i64s (by decide) (by decide)) (i64s (by decide) (by decide)) (i64s (by decide) (by decide)) (by decide)
set_option maxRecDepth 10000 in
set_option maxHeartbeats 16000000 in
theorem plain_walk (v : Value) (t : Nd) (w : World) (hv : NV w.heap.size w t v) (hs : setsN t) (E : prp.Env w) (P : PE w) :
    Calls Tryz.prog 3 #[v] w fun e w' => e = .returned (.bool true) ∧ Below w.heap.size w w' := by
  obtain ⟨k, m, a, b, g, n, st, ks, sa, sc, ao, cap, rfl, rfl, _⟩ := hv.open
  generalize st.length = sl at *
  generalize ks.length = nk at *
  have HB : Hid (Below w.heap.size w (w.alloc (.cells #[.int .i64 k, .int .i64 m, .int .i64 a, .int .i64 b, .bool g, .string n, .slice sa sl sc, .slice ao nk cap] 25))) := (Below.refl _ w).alloc (Nat.le_refl _) _
  have HX : Hid (Bk (w.alloc (.cells #[.int .i64 k, .int .i64 m, .int .i64 a, .int .i64 b, .bool g, .string n, .slice sa sl sc, .slice ao nk cap] 25)) w.heap.size #[.int .i64 k, .int .i64 m, .int .i64 a, .int .i64 b, .bool g, .string n, .slice sa sl sc, .slice ao nk cap] 25) := Bk.new w _ _
  obtain ⟨q, hq⟩ : ∃ q, (!(fewN (.mk k m a b g n st ks) 3000 500).2) = q := ⟨_, rfl⟩
  have CD := deep_any (.mk k m a b g n st ks) _ 3000 500 (w.alloc (.cells #[.int .i64 k, .int .i64 m, .int .i64 a, .int .i64 b, .bool g, .string n, .slice sa sl sc, .slice ao nk cap] 25)) ((hv.keep HB.out).wide (by simp)) (by omega) (by omega) (by omega) (by omega)
  rw [hq] at CD
  have CA : Hid (∀ W, Below w.heap.size w W → Calls Tryz.prog 6 #[] W fun e w' => e = .returned (.bool true) ∧ Below w.heap.size w w') := fun W h => (awake_any W (E.below h) (P.below h)).mono (by rintro e w' ⟨rfl, d⟩; exact ⟨rfl, h.trans (below_less d h.size)⟩)
  cases q with
  | true =>
    clear hv hq E P hs
    go_enter Tryz.func3, Tryz.ntmps3
    go_wp2_with (first
      | (go_at_call 5; refine CD.mono ?_; rintro e w1 ⟨rfl, d⟩; have HD : Hid (Below w.heap.size w w1) := HB.out.trans (below_less d (by simp)); clear d)
      | (go_at_call 6; refine (CA.out _ HD.out).mono ?_; rintro e w2 ⟨rfl, d⟩; have HF : Hid (Below w.heap.size w w2) := d; clear d))
    go_ret
    exact ⟨rfl, HF.out⟩
  | false =>
  have hsz : ((.mk k m a b g n st ks) : Nd).sz ≤ 3000 := by have := deep_facts (t := (.mk k m a b g n st ks)) (nodes := 3000) (depth := 500) (by simpa using hq); omega
  obtain ⟨r, hr⟩ : ∃ r, plN (.mk k m a b g n st ks) 0 = r := ⟨_, rfl⟩
  have KP : Hid (∀ W, Below w.heap.size w W → Calls Tryz.prog 7 #[.agg #[.int .i64 k, .int .i64 m, .int .i64 a, .int .i64 b, .bool g, .string n, .slice sa sl sc, .slice ao nk cap]] W fun e w' => e = .returned (.bool r) ∧ Below W.heap.size W w') := fun W h => by
    have := plain_any _ _ W ((hv.keep h).wide h.size) (by omega); rw [hr] at this; exact this
  have KR : Hid (∀ W, Below w.heap.size w W → Calls Tryz.prog 8 #[.agg #[.int .i64 k, .int .i64 m, .int .i64 a, .int .i64 b, .bool g, .string n, .slice sa sl sc, .slice ao nk cap]] W fun e w' => e = .returned (.bool r) ∧ Below W.heap.size W w') := fun W h => by
    have := rPlain_any _ _ W ((hv.keep h).wide h.size) (by omega) hs; rw [hr] at this; exact this
  clear hv hq E P hs hsz hr CA
  go_enter Tryz.func3, Tryz.ntmps3
  go_wp2_with (go_at_call 5; refine CD.mono ?_; rintro e w1 ⟨rfl, d⟩; have HD : Hid (Below w.heap.size w w1) := HB.out.trans (below_less d (by simp)); have HX1 : Hid (Bk w1 w.heap.size #[.int .i64 k, .int .i64 m, .int .i64 a, .int .i64 b, .bool g, .string n, .slice sa sl sc, .slice ao nk cap] 25) := HX.out.on d; clear d)
  have hw1 : w.heap.size < w1.heap.size := HX1.out.lt
  have K1 : Hid (∀ W, Below w1.heap.size w1 W → Calls Tryz.prog 7 #[.agg #[.int .i64 k, .int .i64 m, .int .i64 a, .int .i64 b, .bool g, .string n, .slice sa sl sc, .slice ao nk cap]] W fun e w' => e = .returned (.bool r) ∧ Below w1.heap.size w1 w') := fun W h => (KP.out W (HD.out.trans (below_less h (by omega)))).mono (by rintro e w' ⟨rfl, d⟩; exact ⟨rfl, h.trans (below_less d h.size)⟩)
  have K2 : Hid (∀ W, Below w1.heap.size w1 W → Calls Tryz.prog 8 #[.agg #[.int .i64 k, .int .i64 m, .int .i64 a, .int .i64 b, .bool g, .string n, .slice sa sl sc, .slice ao nk cap]] W fun e w' => e = .returned (.bool r) ∧ Below w1.heap.size w1 w') := fun W h => (KR.out W (HD.out.trans (below_less h (by omega)))).mono (by rintro e w' ⟨rfl, d⟩; exact ⟨rfl, h.trans (below_less d h.size)⟩)
  have K3 : Hid (∀ W, Below w1.heap.size w1 W → Calls Tryz.prog 7 #[.agg #[.int .i64 14, .int .i64 0, .int .i64 0, .int .i64 0, .bool false, .string ⟨#[]⟩, .slice none 0 0, .slice none 0 0]] W fun e w' => e = .returned (.bool true) ∧ Below w1.heap.size w1 w') := fun W h => (plain_any zC _ W (nv_zC W) (by decide)).mono (by rintro e w' ⟨rfl, d⟩; exact ⟨rfl, h.trans (below_less d h.size)⟩)
  have an0 : ∀ p : Abv w1.heap.size w1, p.w.cell? ⟨w.heap.size, 0, none⟩ = some (.int .i64 k) := fun p => Bk.above HX1.out hw1 0 (u := .int .i64 k) rfl p
  have an1 : ∀ p : Abv w1.heap.size w1, p.w.cell? ⟨w.heap.size, 1, none⟩ = some (.int .i64 m) := fun p => Bk.above HX1.out hw1 1 (u := .int .i64 m) rfl p
  have an2 : ∀ p : Abv w1.heap.size w1, p.w.cell? ⟨w.heap.size, 2, none⟩ = some (.int .i64 a) := fun p => Bk.above HX1.out hw1 2 (u := .int .i64 a) rfl p
  have an3 : ∀ p : Abv w1.heap.size w1, p.w.cell? ⟨w.heap.size, 3, none⟩ = some (.int .i64 b) := fun p => Bk.above HX1.out hw1 3 (u := .int .i64 b) rfl p
  have an4 : ∀ p : Abv w1.heap.size w1, p.w.cell? ⟨w.heap.size, 4, none⟩ = some (.bool g) := fun p => Bk.above HX1.out hw1 4 (u := .bool g) rfl p
  have an5 : ∀ p : Abv w1.heap.size w1, p.w.cell? ⟨w.heap.size, 5, none⟩ = some (.string n) := fun p => Bk.above HX1.out hw1 5 (u := .string n) rfl p
  have an6 : ∀ p : Abv w1.heap.size w1, p.w.cell? ⟨w.heap.size, 6, none⟩ = some (.slice sa sl sc) := fun p => Bk.above HX1.out hw1 6 (u := .slice sa sl sc) rfl p
  have an7 : ∀ p : Abv w1.heap.size w1, p.w.cell? ⟨w.heap.size, 7, none⟩ = some (.slice ao nk cap) := fun p => Bk.above HX1.out hw1 7 (u := .slice ao nk cap) rfl p
  have HWD : Hid (w.heap.size ≤ w1.heap.size) := by unfold Hid; omega
  clear KP KR CD HB HX
  refine region_above w1.heap.size w1 mixed (by kernel_rfl) ((Below.refl _ w1).drew) ?_
  repeat (refine wpQuiet_step (fun K hK => ?_)
          go_simp
          first
            | (refine hK _ ?_; clear hK K)
            | (apply Exists.intro
               refine ⟨fun _ => ?_, hK _ ?_⟩
               (first
                 | (go_at_call_of 7 (Value.slice ao nk cap); refine calls_above K1.out _)
                 | (go_at_call 8; refine calls_above K2.out _)
                 | (go_at_call 7; refine calls_above K3.out _))
               clear hK K))
  refine wpQuiet_nil ?_
  intro _ hw'
  obtain ⟨p, hw''⟩ := hw'
  subst hw''
  go_wp2
  go_ret
  exact ⟨by simp, HD.out.trans (below_less p.h HWD.out)⟩
end Go.Proofs.YtinlolmjafjhnaaGreatDoor.low
end
