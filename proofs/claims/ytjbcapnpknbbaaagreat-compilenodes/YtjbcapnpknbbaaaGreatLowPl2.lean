/- Whether a tree is one of sets: the document's answer, at any node. -/
import Derived.Test.YtjbcapnpknbbaaaGreatLowPl3
import Derived.Test.YtjbcapnpknbbaaaGreatBndRngRef
import Derived.Deep.LoopGhost
import Derived.Deep.CutBlock
set_option linter.unusedVariables false
set_option linter.unusedSimpArgs false
namespace Go.Proofs.YtjbcapnpknbbaaaGreat.low
open Go.RowKit nod
open Go.Proofs.YtjbcapnpknbbaaaGreat.rng (R RV canB nxt ret_int ret_bool below_drewN info_parts own_below' get_lt take_get)

mutual
/-- No set of the tree is longer than what memory holds. -/
def setsN : Nd → Prop
  | .mk _ _ _ _ _ _ s ks => s.length ≤ 8796093021952 ∧ setsL ks
def setsL : List Nd → Prop
  | [] => True
  | t :: ts => setsN t ∧ setsL ts
end
theorem sets_mem {t : Nd} : ∀ {ks : List Nd}, setsL ks → t ∈ ks → setsN t
  | x :: ks, h, hm => by
    rw [setsL] at h
    rcases List.mem_cons.1 hm with rfl | hm
    · exact h.1
    · exact sets_mem h.2 hm
theorem kids_of {k : Int} (h : kidsP k = true) : k = 6 ∨ k = 7 ∨ k = 8 ∨ k = 9 ∨ k = 10 ∨ k = 11 := by simpa [kidsP] using h
set_option maxRecDepth 100000 in
set_option maxHeartbeats 16000000 in
theorem rkids_any (k m a b : Int) (g : Bool) (n : ByteArray) (sa : Option Addr) (st : List R) (sl sc : Nat) (ao : Option Addr) (nk cap : Nat) (ks : List Nd) (d : Int) (B : Nat) (w : World)
    (hk : kidsP k = true) (hd1 : 0 ≤ d) (hd2 : d ≤ 400) (HL : Hid (ks.length = nk)) (hk3 : nk ≤ 1000000000) (hBw : B ≤ w.heap.size) (HK : Hid (KV B w ao ks))
    (HI : Hid (∀ (t : Nd) (v : Value) (W : World), t ∈ ks → NV B W t v → w.heap.size ≤ W.heap.size → Calls Tryz.prog 59 #[v, .int .i64 (d + 1)] W fun e w' => e = .returned (.bool (plN t (d + 1))) ∧ Below W.heap.size W w')) :
    Calls Tryz.prog 59 #[.agg #[.int .i64 k, .int .i64 m, .int .i64 a, .int .i64 b, .bool g, .string n, .slice sa sl sc, .slice ao nk cap], .int .i64 d] w fun e w' => e = .returned (.bool (standP k m a b st nk && ks.all fun t => plN t (d + 1))) ∧ Below w.heap.size w w' := by
  have HB : Hid (Below w.heap.size w (w.alloc (.cells #[.int .i64 k, .int .i64 m, .int .i64 a, .int .i64 b, .bool g, .string n, .slice sa sl sc, .slice ao nk cap] 25))) := (Below.refl _ w).alloc (Nat.le_refl _) _
  obtain ⟨q, hq⟩ : ∃ q, standP k m a b st nk = q := ⟨_, rfl⟩
  have HQ : Hid (standP k m a b st nk = q) := hq
  rw [hq]
  clear hq
  have hd3 : ¬ d > 400 := by omega
  have HKP : Hid (kidsP k = true) := hk
  obtain ⟨o1, ho1⟩ : ∃ o1 : Bool, ((nk : Int) == 1) = o1 := ⟨_, rfl⟩
  have HO1 : Hid (((nk : Int) == 1) = o1) := ho1
  clear hk
  go_enter Tryz.func59, Tryz.ntmps59
  go_upto_block 0 with fail
  go_cut [6] from 15 to 120 (fun s6 wx => s6 = .bool q ∧ wx = (w.alloc (.cells #[.int .i64 k, .int .i64 m, .int .i64 a, .int .i64 b, .bool g, .string n, .slice sa sl sc, .slice ao nk cap] 25)))
  case first =>
    clear HI HK HB ho1
    have HN1 : Hid (o1 = decide (nk = 1)) := by unfold Hid; rw [← HO1.out, Bool.eq_iff_iff]; simp; omega
    clear HO1
    by_cases hb : b = -1
    case pos =>
      subst hb
      rcases kids_of HKP.out with rfl | rfl | rfl | rfl | rfl | rfl
      all_goals
        cases o1
        all_goals
          go_wp2
          all_goals
            go_meet
            case rel => exact ⟨congrArg Value.bool (by have h1 := HN1.out; have h2 := HQ.out; (simp [standP, repP, wi] at h1 h2) <;> first | exact h2 | exact h2.symm | (rw [← h2]; done) | (simp [*]; done) | (rw [← h2]; simp [*]; done) | (rw [← h2]; simp [*]; omega)), rfl⟩
    case neg =>
      have fb : (b == -1) = false := by simpa using hb
      rcases kids_of HKP.out with rfl | rfl | rfl | rfl | rfl | rfl
      all_goals
        cases o1
        all_goals
          go_wp2
          all_goals
            go_meet
            case rel => exact ⟨congrArg Value.bool (by have h1 := HN1.out; have h2 := HQ.out; (simp [standP, repP, wi, fb] at h1 h2) <;> first | exact h2 | exact h2.symm | (rw [← h2]; done) | (simp [*]; done) | (rw [← h2]; simp [*]; done) | (rw [← h2]; simp [*]; omega)), rfl⟩
  case rest =>
    obtain ⟨rfl, rfl⟩ := hcut
    clear ho1 HO1 HQ
    go_wp2
    go_loopg [6, 124] nk (fun gk v6 i wr => ∃ (j : Nat), j + gk = nk ∧ i = .int .i64 j ∧ v6 = .bool (q && (ks.take j).all fun t => plN t (d + 1)) ∧ Hid (Below w.heap.size w wr))
    case atStart => exact ⟨0, by omega, rfl, by simp, HB⟩
    case round =>
      obtain ⟨j, hj, rfl, rfl, HBr⟩ := hrel
      clear HB
      by_cases hlt : j < nk
      · obtain ⟨t, ht⟩ := getX HL.out hlt
        obtain ⟨bb, off, rfl, hka⟩ := (HK.out.below (below_less HBr.out hBw)).some (by have := HL.out; omega)
        obtain ⟨k', m', a', b', g', n', s', kk, sa', sc', ao', cap', rfl, ⟨e0, e1, e2, e3, e4, e5, e6, e7⟩, hv'⟩ := hka.kid ht
        have hmem := List.mem_of_getElem? ht
        have HT2 : Hid ((ks.take (j + 1)).all (fun t => plN t (d + 1)) = ((ks.take j).all (fun t => plN t (d + 1)) && plN (.mk k' m' a' b' g' n' s' kk) (d + 1))) := by unfold Hid; rw [takeX ht, List.all_append]; simp
        generalize s'.length = sl' at *
        generalize kk.length = nk' at *
        have W1 : Below wr.heap.size wr (wr.alloc (.cells #[.int .i64 k', .int .i64 m', .int .i64 a', .int .i64 b', .bool g', .string n', .slice sa' sl' sc', .slice ao' nk' cap'] 25)) := (Below.refl _ wr).alloc (Nat.le_refl _) _
        have hsz := HBr.out.size
        have HB1 : Hid (Below w.heap.size w (wr.alloc (.cells #[.int .i64 k', .int .i64 m', .int .i64 a', .int .i64 b', .bool g', .string n', .slice sa' sl' sc', .slice ao' nk' cap'] 25))) := HBr.out.trans (below_less W1 hsz)
        have C := HI.out _ _ (wr.alloc (.cells #[.int .i64 k', .int .i64 m', .int .i64 a', .int .i64 b', .bool g', .string n', .slice sa' sl' sc', .slice ao' nk' cap'] 25)) hmem (hv'.keep (below_less W1 (by omega))) (by simp; omega)
        obtain ⟨x, hx⟩ : ∃ x, plN (.mk k' m' a' b' g' n' s' kk) (d + 1) = x := ⟨_, rfl⟩
        obtain ⟨y, hy⟩ : ∃ y, (q && (ks.take j).all fun t => plN t (d + 1)) = y := ⟨_, rfl⟩
        rw [hx] at C HT2
        have HQ : Hid ((q && (ks.take (j + 1)).all fun t => plN t (d + 1)) = (y && x)) := by unfold Hid; rw [HT2.out, ← Bool.and_assoc, hy]
        rw [hy]
        clear hka hv' ht hmem W1 hx hy HT2 HBr HI HKP
        cases y with
        | false =>
          clear C
          go_wp2
          go_roundg (gk - 1)
          case measure => omega
          case rel => exact ⟨j + 1, by omega, by go_num, by rw [HQ.out]; rfl, HB1⟩
        | true =>
          go_wp2_with (go_at_call 59; refine C.mono ?_; rintro e w2 ⟨rfl, b2⟩; have HB2 : Hid (Below w.heap.size w w2) := HB1.out.trans (below_less b2 (by simp; omega)); clear b2)
          go_roundg (gk - 1)
          case measure => omega
          case rel => exact ⟨j + 1, by omega, by go_num, by rw [HQ.out]; rfl, HB2⟩
      · have hjn : j = nk := by omega
        have htk : ks.take j = ks := List.take_of_length_le (by have := HL.out; omega)
        rw [htk]
        obtain ⟨y, hy⟩ : ∃ y, (q && ks.all fun t => plN t (d + 1)) = y := ⟨_, rfl⟩
        have HY : Hid ((q && ks.all fun t => plN t (d + 1)) = y) := hy
        rw [hy]
        clear htk HI HK HKP hy
        go_wp2
        go_ret
        exact ⟨ret_bool HY.out.symm, HBr.out⟩
set_option maxRecDepth 100000 in
set_option maxHeartbeats 16000000 in
theorem rplain_any : ∀ (N : Nat) (t : Nd) (v : Value) (d : Int) (B : Nat) (w : World), t.sz ≤ N → NV B w t v → B ≤ w.heap.size → 0 ≤ d → d + N ≤ 1000000000 → setsN t →
    Calls Tryz.prog 59 #[v, .int .i64 d] w fun e w' => e = .returned (.bool (plN t d)) ∧ Below w.heap.size w w' := by
  intro N
  induction N with
  | zero => intro t v d B w h; obtain ⟨k, m, a, b, g, n, st, ks⟩ := t; rw [Nd.sz] at h; omega
  | succ N ih =>
    intro t v d B w hN hv hBw hd1 hd2 hsets
    obtain ⟨k, m, a, b, g, n, st, ks, sa, sc, ao, cap, rfl, rfl, _, _, ⟨hrs, _, hs1, hs2, hs3⟩, hk1, hk2, _, hkv⟩ := hv.open
    rw [Nd.sz] at hN
    rw [setsN] at hsets
    clear hv
    obtain ⟨nk, hnk⟩ : ∃ nk, ks.length = nk := ⟨_, rfl⟩
    have HL : Hid (ks.length = nk) := hnk
    have hk3 : nk ≤ 1000000000 := by have := len_szL ks; omega
    have HK : Hid (KV B w ao ks) := hkv
    rw [hnk] at hk1 ⊢
    have HBx : Below w.heap.size w (w.alloc (.cells #[.int .i64 k, .int .i64 m, .int .i64 a, .int .i64 b, .bool g, .string n, .slice sa st.length sc, .slice ao nk cap] 25)) := (Below.refl _ w).alloc (Nat.le_refl _) _
    have HP0 : Hid (plN (.mk k m a b g n st ks) d = (decide (d ≤ 400) && standP k m a b st nk && (!kidsP k || ks.all (fun t => plN t (d + 1))))) := by unfold Hid; rw [plN, plL_all, hnk]
    have HI : Hid (∀ (t : Nd) (v : Value) (W : World), t ∈ ks → NV B W t v → w.heap.size ≤ W.heap.size → Calls Tryz.prog 59 #[v, .int .i64 (d + 1)] W fun e w' => e = .returned (.bool (plN t (d + 1))) ∧ Below W.heap.size W w') := fun t v W hm hv hs => by
      have := szL_mem hm
      exact ih t v (d + 1) B W (by omega) hv (by omega) (by omega) (by omega) (sets_mem hsets.2 hm)
    have CC := rng.rcan_any sa sc st (w.alloc (.cells #[.int .i64 k, .int .i64 m, .int .i64 a, .int .i64 b, .bool g, .string n, .slice sa st.length sc, .slice ao nk cap] 25)) hsets.1 (hrs.below HBx) hs3
    clear hkv ih hN hnk hrs hs1 hs2 hsets
    generalize hC : canB 0 st = x15 at *
    have HC : Hid (canB 0 st = x15) := hC
    clear hC
    generalize st.length = sl at *
    have HB : Hid (Below w.heap.size w (w.alloc (.cells #[.int .i64 k, .int .i64 m, .int .i64 a, .int .i64 b, .bool g, .string n, .slice sa sl sc, .slice ao nk cap] 25))) := HBx
    clear HBx
    by_cases hdd : d ≤ 400
    · have hd3 : ¬ d > 400 := by omega
      by_cases hkd : kidsP k = true
      · have C := rkids_any k m a b g n sa st sl sc ao nk cap ks d B w hkd hd1 hdd HL hk3 hBw HK HI
        have e : plN (.mk k m a b g n st ks) d = (standP k m a b st nk && ks.all fun t => plN t (d + 1)) := by rw [HP0.out, decide_eq_true hdd, hkd]; simp
        rw [e]; exact C
      by_cases c15 : k = 15
      · subst c15
        have HE : Hid (plN (.mk 15 m a b g n st ks) d = x15) := by unfold Hid; rw [HP0.out, decide_eq_true hdd]; simp [standP, kidsP, HC.out]
        clear HP0 HI HK HC hdd hkd
        go_enter Tryz.func59, Tryz.ntmps59
        go_wp2_with (go_at_call 85; refine CC.mono ?_; rintro e w1 ⟨rfl, b1⟩; have HF : Hid (Below w.heap.size w w1) := HB.out.trans (below_less b1 (by simp)); clear b1)
        go_ret
        exact ⟨ret_bool HE.out.symm, HF.out⟩
      by_cases c12 : k = 12
      · subst c12
        have HE : Hid (plN (.mk 12 m a b g n st ks) d = wi m 1 10) := by unfold Hid; rw [HP0.out, decide_eq_true hdd]; simp [standP, kidsP]
        clear HP0 HI HK HC CC hdd hkd
        by_cases h1 : m ≥ 1
        · by_cases h2 : m ≤ 10
          · have HF : Hid (wi m 1 10 = true) := by unfold Hid wi; simp; omega
            go_enter Tryz.func59, Tryz.ntmps59
            go_wp2
            go_ret
            exact ⟨ret_bool (by rw [HE.out, HF.out]), HB.out⟩
          · have HF : Hid (wi m 1 10 = false) := by unfold Hid wi; simp; omega
            go_enter Tryz.func59, Tryz.ntmps59
            go_wp2
            go_ret
            exact ⟨ret_bool (by rw [HE.out, HF.out]), HB.out⟩
        · have HF : Hid (wi m 1 10 = false) := by unfold Hid wi; simp; omega
          go_enter Tryz.func59, Tryz.ntmps59
          go_wp2
          go_ret
          exact ⟨ret_bool (by rw [HE.out, HF.out]), HB.out⟩
      by_cases c13 : k = 13
      · subst c13
        have HE : Hid (plN (.mk 13 m a b g n st ks) d = wi a 1 20) := by unfold Hid; rw [HP0.out, decide_eq_true hdd]; simp [standP, kidsP]
        clear HP0 HI HK HC CC hdd hkd
        by_cases h1 : a ≥ 1
        · by_cases h2 : a ≤ 20
          · have HF : Hid (wi a 1 20 = true) := by unfold Hid wi; simp; omega
            go_enter Tryz.func59, Tryz.ntmps59
            go_wp2
            go_ret
            exact ⟨ret_bool (by rw [HE.out, HF.out]), HB.out⟩
          · have HF : Hid (wi a 1 20 = false) := by unfold Hid wi; simp; omega
            go_enter Tryz.func59, Tryz.ntmps59
            go_wp2
            go_ret
            exact ⟨ret_bool (by rw [HE.out, HF.out]), HB.out⟩
        · have HF : Hid (wi a 1 20 = false) := by unfold Hid wi; simp; omega
          go_enter Tryz.func59, Tryz.ntmps59
          go_wp2
          go_ret
          exact ⟨ret_bool (by rw [HE.out, HF.out]), HB.out⟩
      by_cases c14 : k = 14
      · subst c14
        have HE : Hid (plN (.mk 14 m a b g n st ks) d = true) := by unfold Hid; rw [HP0.out, decide_eq_true hdd]; simp [standP, kidsP]
        clear HP0 HI HK HC CC hdd hkd
        go_enter Tryz.func59, Tryz.ntmps59
        go_wp2
        go_ret
        exact ⟨ret_bool HE.out.symm, HB.out⟩
      have hn6 : ¬ (k = 6 ∨ k = 7 ∨ k = 8 ∨ k = 9 ∨ k = 10 ∨ k = 11) := by simpa [kidsP] using hkd
      have HE : Hid (plN (.mk k m a b g n st ks) d = false) := by
        have a6 : ¬ (k = 6 ∨ k = 14) := by omega
        have a7 : ¬ k = 7 := by omega
        have a8 : ¬ k = 8 := by omega
        have a9 : ¬ k = 9 := by omega
        have a10 : ¬ k = 10 := by omega
        have a11 : ¬ k = 11 := by omega
        unfold Hid; rw [HP0.out]; unfold standP; rw [if_neg c15, if_neg a6, if_neg a7, if_neg a8, if_neg a9, if_neg a10, if_neg a11, if_neg c12, if_neg c13]; simp
      have f15 : (k == 15) = false := by simpa using c15
      have f12 : (k == 12) = false := by simpa using c12
      have f13 : (k == 13) = false := by simpa using c13
      have f14 : (k == 14) = false := by simpa using c14
      have f6 : (k == 6) = false := by simp; omega
      have f7 : (k == 7) = false := by simp; omega
      have f8 : (k == 8) = false := by simp; omega
      have f9 : (k == 9) = false := by simp; omega
      have f10 : (k == 10) = false := by simp; omega
      have f11 : (k == 11) = false := by simp; omega
      clear HP0 HI HK HC CC hdd hkd hn6 c15 c12 c13 c14
      go_enter Tryz.func59, Tryz.ntmps59
      go_wp2
      go_ret
      exact ⟨ret_bool HE.out.symm, HB.out⟩
    · have hd3 : d > 400 := by omega
      have HE : Hid (plN (.mk k m a b g n st ks) d = false) := by unfold Hid; rw [HP0.out, decide_eq_false hdd]; rfl
      clear HP0 HI HK CC hdd
      go_enter Tryz.func59, Tryz.ntmps59
      go_wp2
      go_ret
      exact ⟨ret_bool HE.out.symm, HB.out⟩
theorem rPlain_any (t : Nd) (v : Value) (w : World) (hv : NV w.heap.size w t v) (hs : t.sz ≤ 100000000) (hq : setsN t) :
    Calls Tryz.prog 19 #[v] w fun e w' => e = .returned (.bool (plN t 0)) ∧ Below w.heap.size w w' := by
  obtain ⟨k, m, a, b, g, n, st, ks, sa, sc, ao, cap, rfl, rfl, _⟩ := hv.open
  generalize st.length = sl at *
  generalize ks.length = nk at *
  have HB : Hid (Below w.heap.size w (w.alloc (.cells #[.int .i64 k, .int .i64 m, .int .i64 a, .int .i64 b, .bool g, .string n, .slice sa sl sc, .slice ao nk cap] 25))) := (Below.refl _ w).alloc (Nat.le_refl _) _
  have C := rplain_any _ _ _ 0 w.heap.size (w.alloc (.cells #[.int .i64 k, .int .i64 m, .int .i64 a, .int .i64 b, .bool g, .string n, .slice sa sl sc, .slice ao nk cap] 25)) (Nat.le_refl _) (hv.keep HB.out) (by simp) (by omega) (by omega) hq
  generalize plN (.mk k m a b g n st ks) 0 = q at *
  clear hv hq
  go_enter Tryz.func19, Tryz.ntmps19
  go_wp2_with (go_at_call 59; refine C.mono ?_; rintro e w1 ⟨rfl, d⟩; have HF : Hid (Below w.heap.size w w1) := HB.out.trans (below_less d (by simp)); clear d)
  go_ret
  exact ⟨rfl, HF.out⟩
end Go.Proofs.YtjbcapnpknbbaaaGreat.low
