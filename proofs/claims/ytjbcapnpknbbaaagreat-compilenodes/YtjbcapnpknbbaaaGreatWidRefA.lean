/- The document's Of of alternatives, and of any node. -/
import Derived.Test.YtjbcapnpknbbaaaGreatBndWidRefS
set_option linter.unusedVariables false
set_option linter.unusedSimpArgs false
namespace Go.Proofs.YtjbcapnpknbbaaaGreat.wid
open Go.RowKit
open Go.Proofs.YtjbcapnpknbbaaaGreat.nod
open Go.Proofs.YtjbcapnpknbbaaaGreat.rng (R RV ret_int ret_bool below_drewN info_parts own_below')

set_option maxRecDepth 10000 in
set_option maxHeartbeats 4000000 in
theorem rof_alt (m a b : Int) (g : Bool) (n : ByteArray) (ks : List Nd) (sa : Option Addr) (sl sc : Nat) (ao : Option Addr) (nk cap : Nat) (w : World) (hnk : ks.length = nk) (hk3 : nk ≤ 1000000000) (hcap : nk ≤ cap) (hkv : KV w.heap.size w ao ks) (hi : ∀ (t : Nd) (v : Value) (W : World), t ∈ ks → NV W.heap.size W t v → Calls Tryz.prog 66 #[v] W fun e w' => e = .returned (.tuple #[.int .i64 (ofN t).1, .int .i64 (ofN t).2]) ∧ Below W.heap.size W w') :
    Calls Tryz.prog 66 #[.agg #[.int .i64 7, .int .i64 m, .int .i64 a, .int .i64 b, .bool g, .string n, .slice sa sl sc, .slice ao nk cap]] w fun e w' => e = .returned (.tuple #[.int .i64 ((ks.map ofN).foldl orA (only (ks.map ofN))).1, .int .i64 ((ks.map ofN).foldl orA (only (ks.map ofN))).2]) ∧ Below w.heap.size w w' := by
  have HB : Hid (Below w.heap.size w (w.alloc (.cells #[.int .i64 7, .int .i64 m, .int .i64 a, .int .i64 b, .bool g, .string n, .slice sa sl sc, .slice ao nk cap] 25))) := (Below.refl _ w).alloc (Nat.le_refl _) _
  have HL : Hid (ks.length = nk) := hnk
  have HK : Hid (KV w.heap.size w ao ks) := hkv
  have HI : Hid (∀ (t : Nd) (v : Value) (W : World), t ∈ ks → NV W.heap.size W t v → Calls Tryz.prog 66 #[v] W fun e w' => e = .returned (.tuple #[.int .i64 (ofN t).1, .int .i64 (ofN t).2]) ∧ Below W.heap.size W w') := hi
  clear hkv hi hnk
  go_enter Tryz.func66, Tryz.ntmps66
  go_wp2
  go_loopw [4, 5, 77] (fun lo hi i wr => ∃ (j : Nat) (x y : Int), j ≤ nk ∧ lo = .int .i64 x ∧ hi = .int .i64 y ∧ i = .int .i64 j ∧ Hid ((j = 0 ∧ x = 0 ∧ y = 0) ∨ (0 < j ∧ ((ks.map ofN).take j).foldl orA (only (ks.map ofN)) = (x, y))) ∧ 0 ≤ x ∧ x ≤ 1073741824 ∧ -1 ≤ y ∧ y ≤ 1073741824 ∧ Hid (Below w.heap.size w wr)) (fun _ _ i _ => nk - (intOf i).toNat)
  case atStart => exact ⟨0, 0, 0, Nat.zero_le _, rfl, rfl, rfl, .inl ⟨rfl, rfl, rfl⟩, by omega, by omega, by omega, by omega, HB⟩
  case round =>
    obtain ⟨j, x, y, hj, rfl, rfl, rfl, HE, x1, x2, y1, y2, HW⟩ := hrel
    clear HB
    by_cases hlt : j < nk
    · obtain ⟨t, ht⟩ := getX HL.out hlt
      obtain ⟨bb, off, rfl, hka⟩ := (HK.out.below HW.out).some (by have := HL.out; omega)
      obtain ⟨k', m', a', b', g', n', s', kk, sa', sc', ao', cap', rfl, ⟨e0, e1, e2, e3, e4, e5, e6, e7⟩, hv'⟩ := hka.kid ht
      have hmem := List.mem_of_getElem? ht
      have hgt : (ks.map ofN)[j]? = some (ofN (.mk k' m' a' b' g' n' s' kk)) := by rw [List.getElem?_map, ht]; rfl
      generalize s'.length = sl' at *
      generalize kk.length = nk' at *
      have W1 : Below w.heap.size wr (wr.alloc (.cells #[.int .i64 k', .int .i64 m', .int .i64 a', .int .i64 b', .bool g', .string n', .slice sa' sl' sc', .slice ao' nk' cap'] 25)) := (Below.refl _ wr).alloc HW.out.size _
      have C := HI.out _ _ (wr.alloc (.cells #[.int .i64 k', .int .i64 m', .int .i64 a', .int .i64 b', .bool g', .string n', .slice sa' sl' sc', .slice ao' nk' cap'] 25)) hmem ((hv'.keep W1).wide (by have := HW.out.size; simp; omega))
      have hok := of_ok (.mk k' m' a' b' g' n' s' kk)
      obtain ⟨p, hp⟩ : ∃ p, ofN (.mk k' m' a' b' g' n' s' kk) = p := ⟨_, rfl⟩
      rw [hp] at C hok hgt
      obtain ⟨p1, p2⟩ := p
      have hok' := hok
      obtain ⟨o1, o2, o3, o4⟩ := hok'
      simp only at C o1 o2 o3 o4
      have HC : Hid (Below w.heap.size w (wr.alloc (.cells #[.int .i64 k', .int .i64 m', .int .i64 a', .int .i64 b', .bool g', .string n', .slice sa' sl' sc', .slice ao' nk' cap'] 25))) := HW.out.trans W1
      by_cases hj0 : j = 0
      · have f0 : ((j : Int) == 0) = true := by rw [hj0]; rfl
        have HJ0 : Hid (j = 0) := hj0
        clear hj0
        have HN : Hid ((j + 1 = 0 ∧ min p1 p1 = 0 ∧ greaterR p2 p2 = 0) ∨ (0 < j + 1 ∧ ((ks.map ofN).take (j + 1)).foldl orA (only (ks.map ofN)) = (min p1 p1, greaterR p2 p2))) := by
          refine .inr ⟨by omega, ?_⟩
          have e0 := hgt
          rw [List.getElem?_eq_some_iff] at e0
          have hj0 : j = 0 := HJ0.out
          subst hj0
          rw [fold_snoc hgt, List.take_zero, greaterR_eq hok hok]
          have e2 : only (ks.map ofN) = (p1, p2) := by
            cases hq : ks.map ofN with
            | nil => rw [hq] at hgt; simp at hgt
            | cons u us => rw [hq] at hgt; simp at hgt; exact hgt
          rw [e2]; rfl
        have hb := orA_ok (x := (p1, p2)) (y := (p1, p2)) hok hok
        rw [← greaterR_eq hok hok] at hb
        have P2 : Hid (∀ W, Calls Tryz.prog 91 #[.int .i64 p2, .int .i64 p2] W fun e w' => e = .returned (.int .i64 (greaterR p2 p2)) ∧ W = w') := fun W => (rgreater_any p2 p2 W (by omega) (by omega) o3 o4).mono (by rintro e w' ⟨rfl, rfl⟩; exact ⟨rfl, rfl⟩)
        have hX : min p1 p1 = p1 := by omega
        rw [hX] at HN hb
        generalize greaterR p2 p2 = Y at *
        obtain ⟨z1, z2, z3, z4⟩ := hb
        simp only at z1 z2 z3 z4
        clear HE HK HW hka hv' hmem W1 HI hp hgt hok hX ht
        go_wp2_with (first
          | (go_at_call 91; refine (P2.out _).mono ?_; rintro e w3 ⟨rfl, rfl⟩)
          | (go_at_call 66; refine C.mono ?_; rintro e w2 ⟨rfl, d⟩; have HG : Hid (Below w.heap.size w w2) := HC.out.trans (below_less d (by have := HC.out.size; omega)); clear d))
        go_roundw
        case rel => exact ⟨j + 1, p1, Y, by omega, rfl, rfl, by go_num, HN, z1, z2, z3, z4, HG⟩
        case measure => simp [intOf]; omega
      · have f0 : ((j : Int) == 0) = false := by simp; omega
        have HN : Hid ((j + 1 = 0 ∧ min x p1 = 0 ∧ greaterR y p2 = 0) ∨ (0 < j + 1 ∧ ((ks.map ofN).take (j + 1)).foldl orA (only (ks.map ofN)) = (min x p1, greaterR y p2))) := by
          refine .inr ⟨by omega, ?_⟩
          rcases HE.out with ⟨e1, e2, e3⟩ | ⟨e1, e2⟩
          · omega
          · rw [fold_snoc hgt, e2]; exact (greaterR_eq (x := (x, y)) ⟨x1, x2, y1, y2⟩ hok).symm
        have hb := orA_ok (x := (x, y)) (y := (p1, p2)) ⟨x1, x2, y1, y2⟩ hok
        rw [← greaterR_eq ⟨x1, x2, y1, y2⟩ hok] at hb
        have P2 : Hid (∀ W, Calls Tryz.prog 91 #[.int .i64 y, .int .i64 p2] W fun e w' => e = .returned (.int .i64 (greaterR y p2)) ∧ W = w') := fun W => (rgreater_any y p2 W (by omega) (by omega) o3 o4).mono (by rintro e w' ⟨rfl, rfl⟩; exact ⟨rfl, rfl⟩)
        obtain ⟨X, hX⟩ : ∃ X, min x p1 = X := ⟨_, rfl⟩
        have hX' : (if p1 < x then p1 else x) = X := by rw [← hX]; split <;> omega
        rw [hX] at HN hb
        generalize greaterR y p2 = Y at *
        obtain ⟨z1, z2, z3, z4⟩ := hb
        simp only at z1 z2 z3 z4
        clear HE HK HW hka hv' hmem W1 HI hp hgt hok hX ht
        go_wp2_with (first
          | (go_at_call 91; refine (P2.out _).mono ?_; rintro e w3 ⟨rfl, rfl⟩)
          | (go_at_call 66; refine C.mono ?_; rintro e w2 ⟨rfl, d⟩; have HG : Hid (Below w.heap.size w w2) := HC.out.trans (below_less d (by have := HC.out.size; omega)); clear d))
        go_roundw
        case rel => exact ⟨j + 1, X, Y, by omega, rfl, rfl, by go_num, HN, z1, z2, z3, z4, HG⟩
        case measure => simp [intOf]; omega
    · have HF : Hid ((ks.map ofN).foldl orA (only (ks.map ofN)) = (x, y)) := by
        unfold Hid
        rcases HE.out with ⟨e1, e2, e3⟩ | ⟨e1, e2⟩
        · have h0 : ks = [] := List.eq_nil_of_length_eq_zero (by have := HL.out; omega)
          rw [h0, e2, e3]; rfl
        · rw [← e2, List.take_of_length_le (by have := HL.out; rw [List.length_map]; omega)]
      clear HK HI
      go_wp2
      go_ret2
      exact ⟨by rw [HF.out]; rfl, HW.out⟩
set_option maxRecDepth 10000 in
theorem rof_any : ∀ (N : Nat) (t : Nd) (v : Value) (w : World), t.sz ≤ N → t.sz ≤ 100000000 → NV w.heap.size w t v → Calls Tryz.prog 66 #[v] w fun e w' => e = .returned (.tuple #[.int .i64 (ofN t).1, .int .i64 (ofN t).2]) ∧ Below w.heap.size w w' := by
  intro N
  induction N with
  | zero => intro t v w h; obtain ⟨k, m, a, b, g, n, st, ks⟩ := t; rw [Nd.sz] at h; omega
  | succ N ih =>
    intro t v w hN hN2 hv
    obtain ⟨k, m, a, b, g, n, st, ks, sa, sc, ao, cap, rfl, rfl, ⟨_, _, hia, hib⟩, _, _, hk1, hk2, _, hkv⟩ := hv.open
    rw [Nd.sz] at hN hN2
    have hl := len_szL ks
    have hi : ∀ (t : Nd) (v : Value) (W : World), t ∈ ks → NV W.heap.size W t v → Calls Tryz.prog 66 #[v] W fun e w' => e = .returned (.tuple #[.int .i64 (ofN t).1, .int .i64 (ofN t).2]) ∧ Below W.heap.size W w' := fun t v W hm hv => by
      have := szL_mem hm
      exact ih t v W (by omega) (by omega) hv
    obtain ⟨nk, hnk⟩ : ∃ nk, ks.length = nk := ⟨_, rfl⟩
    rw [ofN_mk, hnk]
    rw [hnk] at hk1 hl
    by_cases c15 : k = 15
    · subst c15; rw [takenA, if_pos rfl]; exact rof_set m a b g n ks sa _ sc ao nk cap w hnk (by omega) hk1 hkv hi
    by_cases c6 : k = 6
    · subst c6; rw [takenA, if_neg (by decide), if_pos rfl]; exact rof_seq m a b g n ks sa _ sc ao nk cap w hnk (by omega) hk1 hkv hi
    by_cases c7 : k = 7
    · subst c7; rw [takenA, if_neg (by decide), if_neg (by decide), if_pos rfl]; exact rof_alt m a b g n ks sa _ sc ao nk cap w hnk (by omega) hk1 hkv hi
    by_cases c8 : k = 8
    · subst c8; rw [takenA, if_neg (by decide), if_neg (by decide), if_neg (by decide), if_pos rfl]
      by_cases cb : b = -1
      · subst cb; exact rof_reps m a g n ks sa _ sc ao nk cap w hnk (by omega) hk1 hkv hi hia
      · exact rof_rep m a b g n ks sa _ sc ao nk cap w hnk (by omega) hk1 hkv hi hib hia (by simpa using cb)
    by_cases c9 : k = 9
    · subst c9; rw [takenA, if_neg (by decide), if_neg (by decide), if_neg (by decide), if_neg (by decide), if_pos (by decide)]; exact rof_group m a b g n ks sa _ sc ao nk cap w hnk (by omega) hk1 hkv hi
    by_cases c11 : k = 11
    · subst c11; rw [takenA, if_neg (by decide), if_neg (by decide), if_neg (by decide), if_neg (by decide), if_pos (by decide)]; exact rof_atomic m a b g n ks sa _ sc ao nk cap w hnk (by omega) hk1 hkv hi
    by_cases c13 : k = 13
    · subst c13; rw [takenA, if_neg (by decide), if_neg (by decide), if_neg (by decide), if_neg (by decide), if_neg (by decide), if_pos rfl]; exact rof_back m a b g n ks sa _ sc ao nk cap w hnk (by omega) hk1 hkv hi
    by_cases c14 : k = 14
    · subst c14; rw [takenA, if_neg (by decide), if_neg (by decide), if_neg (by decide), if_neg (by decide), if_neg (by decide), if_neg (by decide), if_pos rfl]; exact rof_cluster m a b g n ks sa _ sc ao nk cap w hnk (by omega) hk1 hkv hi
    rw [takenA, if_neg c15, if_neg c6, if_neg c7, if_neg c8, if_neg (by omega), if_neg c13, if_neg c14]
    exact rof_none k m a b g n ks sa _ sc ao nk cap w hnk (by omega) hk1 hkv hi (by simpa using c15) (by simpa using c13) (by simpa using c14) (by simpa using c9) (by simpa using c11) (by simpa using c8) (by simpa using c6) (by simpa using c7)
end Go.Proofs.YtjbcapnpknbbaaaGreat.wid
