/- fine of rubricatorlaw18. -/
import Derived.Test.YtjblccgkocknbaaWidFrom
set_option linter.unusedVariables false
set_option linter.unusedSimpArgs false
namespace Go.Proofs.Ytjblccgkocknbaa.wid
open Go.RowKit
open Go.Proofs.Ytjblccgkocknbaa.nod
open Go.Proofs.Ytjblccgkocknbaa.rng (R RV ret_int ret_bool below_drewN info_parts own_below')

theorem fineN_bad {k m a b : Int} {g : Bool} {n : ByteArray} {st : List R} {ks : List Nd} (h : (k == 8 && !(b == -1) && decide (max a 0 > max b 0)) = true) : fineN (.mk k m a b g n st ks) = false := by rw [fineN, h]; rfl
theorem fineN_good {k m a b : Int} {g : Bool} {n : ByteArray} {st : List R} {ks : List Nd} (h : (k == 8 && !(b == -1) && decide (max a 0 > max b 0)) = false) : fineN (.mk k m a b g n st ks) = fineL ks := by rw [fineN, h]; rfl
theorem fineL_snoc {ks : List Nd} {j : Nat} {t : Nd} (h : ks[j]? = some t) : fineL (ks.take (j + 1)) = (fineL (ks.take j) && fineN t) := by rw [takeX h, fineL_all, fineL_all, List.all_append]; simp
theorem fineL_stop {ks : List Nd} {j : Nat} {t : Nd} (h : ks[j]? = some t) (hf : fineN t = false) : fineL ks = false := by
  rw [fineL_all]; exact List.all_eq_false.2 ⟨t, List.mem_of_getElem? h, by rw [hf]; simp⟩
set_option maxRecDepth 10000 in
set_option maxHeartbeats 4000000 in
theorem fine_other (k : Int) (m a b : Int) (g : Bool) (n : ByteArray) (ks : List Nd) (sa : Option Addr) (sl sc : Nat) (ao : Option Addr) (nk cap : Nat) (w : World) (HL : Hid (ks.length = nk)) (hk3 : nk ≤ 1000000000) (hcap : nk ≤ cap) (HK : Hid (KV w.heap.size w ao ks)) (HI : Hid (∀ (t : Nd) (v : Value) (W : World), t ∈ ks → NV W.heap.size W t v → Calls Try.prog 14 #[v] W fun e w' => e = .returned (.bool (fineN t)) ∧ Below W.heap.size W w')) (f1 : (k == 8) = false) :
    Calls Try.prog 14 #[.agg #[.int .i64 k, .int .i64 m, .int .i64 a, .int .i64 b, .bool g, .string n, .slice sa sl sc, .slice ao nk cap]] w fun e w' => e = .returned (.bool (fineL ks)) ∧ Below w.heap.size w w' := by
  have HB : Hid (Below w.heap.size w (w.alloc (.cells #[.int .i64 k, .int .i64 m, .int .i64 a, .int .i64 b, .bool g, .string n, .slice sa sl sc, .slice ao nk cap] 25))) := (Below.refl _ w).alloc (Nat.le_refl _) _
  go_enter Try.func14, Try.ntmps14
  go_wp2
  go_loopw [25] (fun i wr => ∃ (j : Nat), j ≤ nk ∧ i = .int .i64 j ∧ Hid (fineL (ks.take j) = true) ∧ Hid (Below w.heap.size w wr)) (fun i _ => nk - (intOf i).toNat)
  case atStart => exact ⟨0, Nat.zero_le _, rfl, rfl, HB⟩
  case round =>
    obtain ⟨j, hj, rfl, HE, HW⟩ := hrel
    clear HB
    by_cases hlt : j < nk
    · obtain ⟨t, ht⟩ := getX HL.out hlt
      obtain ⟨bb, off, rfl, hka⟩ := (HK.out.below HW.out).some (by have := HL.out; omega)
      obtain ⟨k', m', a', b', g', n', s', kk, sa', sc', ao', cap', rfl, ⟨e0, e1, e2, e3, e4, e5, e6, e7⟩, hv'⟩ := hka.kid ht
      have hmem := List.mem_of_getElem? ht
      generalize s'.length = sl' at *
      generalize kk.length = nk' at *
      have W1 : Below w.heap.size wr (wr.alloc (.cells #[.int .i64 k', .int .i64 m', .int .i64 a', .int .i64 b', .bool g', .string n', .slice sa' sl' sc', .slice ao' nk' cap'] 25)) := (Below.refl _ wr).alloc HW.out.size _
      have C := HI.out _ _ (wr.alloc (.cells #[.int .i64 k', .int .i64 m', .int .i64 a', .int .i64 b', .bool g', .string n', .slice sa' sl' sc', .slice ao' nk' cap'] 25)) hmem ((hv'.keep W1).wide (by have := HW.out.size; simp; omega))
      have HC : Hid (Below w.heap.size w (wr.alloc (.cells #[.int .i64 k', .int .i64 m', .int .i64 a', .int .i64 b', .bool g', .string n', .slice sa' sl' sc', .slice ao' nk' cap'] 25))) := HW.out.trans W1
      obtain ⟨r, hr⟩ : ∃ r, fineN (.mk k' m' a' b' g' n' s' kk) = r := ⟨_, rfl⟩
      rw [hr] at C
      cases r with
      | false =>
        have HX : Hid (fineL ks = false) := fineL_stop ht hr
        clear HE HK HW hka hv' hmem W1 HI hr ht
        go_wp2_with (go_at_call 14; refine C.mono ?_; rintro e w2 ⟨rfl, d⟩; have HG : Hid (Below w.heap.size w w2) := HC.out.trans (below_less d (by have := HC.out.size; omega)); clear d)
        go_ret
        exact ⟨by rw [HX.out]; rfl, HG.out⟩
      | true =>
        have HX : Hid (fineL (ks.take (j + 1)) = true) := by unfold Hid; rw [fineL_snoc ht, HE.out, hr]; rfl
        clear HE HK HW hka hv' hmem W1 HI hr ht
        go_wp2_with (go_at_call 14; refine C.mono ?_; rintro e w2 ⟨rfl, d⟩; have HG : Hid (Below w.heap.size w w2) := HC.out.trans (below_less d (by have := HC.out.size; omega)); clear d)
        go_roundw
        case rel => exact ⟨j + 1, by omega, by go_num, HX, HG⟩
        case measure => simp [intOf]; omega
    · have HX : Hid (fineL ks = true) := by
        unfold Hid; rw [← HE.out, List.take_of_length_le (by have := HL.out; omega)]
      clear HK HI
      go_wp2
      go_ret
      exact ⟨by rw [HX.out]; rfl, HW.out⟩
set_option maxRecDepth 10000 in
set_option maxHeartbeats 4000000 in
theorem fine_any' (m a : Int) (g : Bool) (n : ByteArray) (ks : List Nd) (sa : Option Addr) (sl sc : Nat) (ao : Option Addr) (nk cap : Nat) (w : World) (HL : Hid (ks.length = nk)) (hk3 : nk ≤ 1000000000) (hcap : nk ≤ cap) (HK : Hid (KV w.heap.size w ao ks)) (HI : Hid (∀ (t : Nd) (v : Value) (W : World), t ∈ ks → NV W.heap.size W t v → Calls Try.prog 14 #[v] W fun e w' => e = .returned (.bool (fineN t)) ∧ Below W.heap.size W w')) :
    Calls Try.prog 14 #[.agg #[.int .i64 8, .int .i64 m, .int .i64 a, .int .i64 (-1), .bool g, .string n, .slice sa sl sc, .slice ao nk cap]] w fun e w' => e = .returned (.bool (fineL ks)) ∧ Below w.heap.size w w' := by
  have HB : Hid (Below w.heap.size w (w.alloc (.cells #[.int .i64 8, .int .i64 m, .int .i64 a, .int .i64 (-1), .bool g, .string n, .slice sa sl sc, .slice ao nk cap] 25))) := (Below.refl _ w).alloc (Nat.le_refl _) _
  go_enter Try.func14, Try.ntmps14
  go_wp2
  go_loopw [25] (fun i wr => ∃ (j : Nat), j ≤ nk ∧ i = .int .i64 j ∧ Hid (fineL (ks.take j) = true) ∧ Hid (Below w.heap.size w wr)) (fun i _ => nk - (intOf i).toNat)
  case atStart => exact ⟨0, Nat.zero_le _, rfl, rfl, HB⟩
  case round =>
    obtain ⟨j, hj, rfl, HE, HW⟩ := hrel
    clear HB
    by_cases hlt : j < nk
    · obtain ⟨t, ht⟩ := getX HL.out hlt
      obtain ⟨bb, off, rfl, hka⟩ := (HK.out.below HW.out).some (by have := HL.out; omega)
      obtain ⟨k', m', a', b', g', n', s', kk, sa', sc', ao', cap', rfl, ⟨e0, e1, e2, e3, e4, e5, e6, e7⟩, hv'⟩ := hka.kid ht
      have hmem := List.mem_of_getElem? ht
      generalize s'.length = sl' at *
      generalize kk.length = nk' at *
      have W1 : Below w.heap.size wr (wr.alloc (.cells #[.int .i64 k', .int .i64 m', .int .i64 a', .int .i64 b', .bool g', .string n', .slice sa' sl' sc', .slice ao' nk' cap'] 25)) := (Below.refl _ wr).alloc HW.out.size _
      have C := HI.out _ _ (wr.alloc (.cells #[.int .i64 k', .int .i64 m', .int .i64 a', .int .i64 b', .bool g', .string n', .slice sa' sl' sc', .slice ao' nk' cap'] 25)) hmem ((hv'.keep W1).wide (by have := HW.out.size; simp; omega))
      have HC : Hid (Below w.heap.size w (wr.alloc (.cells #[.int .i64 k', .int .i64 m', .int .i64 a', .int .i64 b', .bool g', .string n', .slice sa' sl' sc', .slice ao' nk' cap'] 25))) := HW.out.trans W1
      obtain ⟨r, hr⟩ : ∃ r, fineN (.mk k' m' a' b' g' n' s' kk) = r := ⟨_, rfl⟩
      rw [hr] at C
      cases r with
      | false =>
        have HX : Hid (fineL ks = false) := fineL_stop ht hr
        clear HE HK HW hka hv' hmem W1 HI hr ht
        go_wp2_with (go_at_call 14; refine C.mono ?_; rintro e w2 ⟨rfl, d⟩; have HG : Hid (Below w.heap.size w w2) := HC.out.trans (below_less d (by have := HC.out.size; omega)); clear d)
        go_ret
        exact ⟨by rw [HX.out]; rfl, HG.out⟩
      | true =>
        have HX : Hid (fineL (ks.take (j + 1)) = true) := by unfold Hid; rw [fineL_snoc ht, HE.out, hr]; rfl
        clear HE HK HW hka hv' hmem W1 HI hr ht
        go_wp2_with (go_at_call 14; refine C.mono ?_; rintro e w2 ⟨rfl, d⟩; have HG : Hid (Below w.heap.size w w2) := HC.out.trans (below_less d (by have := HC.out.size; omega)); clear d)
        go_roundw
        case rel => exact ⟨j + 1, by omega, by go_num, HX, HG⟩
        case measure => simp [intOf]; omega
    · have HX : Hid (fineL ks = true) := by
        unfold Hid; rw [← HE.out, List.take_of_length_le (by have := HL.out; omega)]
      clear HK HI
      go_wp2
      go_ret
      exact ⟨by rw [HX.out]; rfl, HW.out⟩
set_option maxRecDepth 10000 in
set_option maxHeartbeats 4000000 in
theorem fine_rises (m a b : Int) (g : Bool) (n : ByteArray) (ks : List Nd) (sa : Option Addr) (sl sc : Nat) (ao : Option Addr) (nk cap : Nat) (w : World) (HL : Hid (ks.length = nk)) (hk3 : nk ≤ 1000000000) (hcap : nk ≤ cap) (HK : Hid (KV w.heap.size w ao ks)) (HI : Hid (∀ (t : Nd) (v : Value) (W : World), t ∈ ks → NV W.heap.size W t v → Calls Try.prog 14 #[v] W fun e w' => e = .returned (.bool (fineN t)) ∧ Below W.heap.size W w')) (f2 : ¬ b = -1) (f3 : decide (max b 0 < max a 0) = false) :
    Calls Try.prog 14 #[.agg #[.int .i64 8, .int .i64 m, .int .i64 a, .int .i64 b, .bool g, .string n, .slice sa sl sc, .slice ao nk cap]] w fun e w' => e = .returned (.bool (fineL ks)) ∧ Below w.heap.size w w' := by
  have HB : Hid (Below w.heap.size w (w.alloc (.cells #[.int .i64 8, .int .i64 m, .int .i64 a, .int .i64 b, .bool g, .string n, .slice sa sl sc, .slice ao nk cap] 25))) := (Below.refl _ w).alloc (Nat.le_refl _) _
  obtain ⟨A, hA⟩ : ∃ A, max a 0 = A := ⟨_, rfl⟩
  have hA' : (if a < 0 then 0 else a) = A := by rw [← hA]; split <;> omega
  obtain ⟨Q, hQ⟩ : ∃ Q, max b 0 = Q := ⟨_, rfl⟩
  have hQ' : (if b < 0 then 0 else b) = Q := by rw [← hQ]; split <;> omega
  rw [hA, hQ] at f3
  have f2' : (b != -1) = true := by simpa using f2
  clear hA hQ
  go_enter Try.func14, Try.ntmps14
  go_wp2
  go_loopw [25] (fun i wr => ∃ (j : Nat), j ≤ nk ∧ i = .int .i64 j ∧ Hid (fineL (ks.take j) = true) ∧ Hid (Below w.heap.size w wr)) (fun i _ => nk - (intOf i).toNat)
  case atStart => exact ⟨0, Nat.zero_le _, rfl, rfl, HB⟩
  case round =>
    obtain ⟨j, hj, rfl, HE, HW⟩ := hrel
    clear HB
    by_cases hlt : j < nk
    · obtain ⟨t, ht⟩ := getX HL.out hlt
      obtain ⟨bb, off, rfl, hka⟩ := (HK.out.below HW.out).some (by have := HL.out; omega)
      obtain ⟨k', m', a', b', g', n', s', kk, sa', sc', ao', cap', rfl, ⟨e0, e1, e2, e3, e4, e5, e6, e7⟩, hv'⟩ := hka.kid ht
      have hmem := List.mem_of_getElem? ht
      generalize s'.length = sl' at *
      generalize kk.length = nk' at *
      have W1 : Below w.heap.size wr (wr.alloc (.cells #[.int .i64 k', .int .i64 m', .int .i64 a', .int .i64 b', .bool g', .string n', .slice sa' sl' sc', .slice ao' nk' cap'] 25)) := (Below.refl _ wr).alloc HW.out.size _
      have C := HI.out _ _ (wr.alloc (.cells #[.int .i64 k', .int .i64 m', .int .i64 a', .int .i64 b', .bool g', .string n', .slice sa' sl' sc', .slice ao' nk' cap'] 25)) hmem ((hv'.keep W1).wide (by have := HW.out.size; simp; omega))
      have HC : Hid (Below w.heap.size w (wr.alloc (.cells #[.int .i64 k', .int .i64 m', .int .i64 a', .int .i64 b', .bool g', .string n', .slice sa' sl' sc', .slice ao' nk' cap'] 25))) := HW.out.trans W1
      obtain ⟨r, hr⟩ : ∃ r, fineN (.mk k' m' a' b' g' n' s' kk) = r := ⟨_, rfl⟩
      rw [hr] at C
      cases r with
      | false =>
        have HX : Hid (fineL ks = false) := fineL_stop ht hr
        clear HE HK HW hka hv' hmem W1 HI hr ht
        go_wp2_with (go_at_call 14; refine C.mono ?_; rintro e w2 ⟨rfl, d⟩; have HG : Hid (Below w.heap.size w w2) := HC.out.trans (below_less d (by have := HC.out.size; omega)); clear d)
        go_ret
        exact ⟨by rw [HX.out]; rfl, HG.out⟩
      | true =>
        have HX : Hid (fineL (ks.take (j + 1)) = true) := by unfold Hid; rw [fineL_snoc ht, HE.out, hr]; rfl
        clear HE HK HW hka hv' hmem W1 HI hr ht
        go_wp2_with (go_at_call 14; refine C.mono ?_; rintro e w2 ⟨rfl, d⟩; have HG : Hid (Below w.heap.size w w2) := HC.out.trans (below_less d (by have := HC.out.size; omega)); clear d)
        go_roundw
        case rel => exact ⟨j + 1, by omega, by go_num, HX, HG⟩
        case measure => simp [intOf]; omega
    · have HX : Hid (fineL ks = true) := by
        unfold Hid; rw [← HE.out, List.take_of_length_le (by have := HL.out; omega)]
      clear HK HI
      go_wp2
      go_ret
      exact ⟨by rw [HX.out]; rfl, HW.out⟩
set_option maxRecDepth 10000 in
set_option maxHeartbeats 4000000 in
theorem fine_falls (m a b : Int) (g : Bool) (n : ByteArray) (ks : List Nd) (sa : Option Addr) (sl sc : Nat) (ao : Option Addr) (nk cap : Nat) (w : World) (HL : Hid (ks.length = nk)) (hk3 : nk ≤ 1000000000) (hcap : nk ≤ cap) (HK : Hid (KV w.heap.size w ao ks)) (HI : Hid (∀ (t : Nd) (v : Value) (W : World), t ∈ ks → NV W.heap.size W t v → Calls Try.prog 14 #[v] W fun e w' => e = .returned (.bool (fineN t)) ∧ Below W.heap.size W w')) (f2 : ¬ b = -1) (f3 : decide (max b 0 < max a 0) = true) :
    Calls Try.prog 14 #[.agg #[.int .i64 8, .int .i64 m, .int .i64 a, .int .i64 b, .bool g, .string n, .slice sa sl sc, .slice ao nk cap]] w fun e w' => e = .returned (.bool (false)) ∧ Below w.heap.size w w' := by
  have HB : Hid (Below w.heap.size w (w.alloc (.cells #[.int .i64 8, .int .i64 m, .int .i64 a, .int .i64 b, .bool g, .string n, .slice sa sl sc, .slice ao nk cap] 25))) := (Below.refl _ w).alloc (Nat.le_refl _) _
  obtain ⟨A, hA⟩ : ∃ A, max a 0 = A := ⟨_, rfl⟩
  have hA' : (if a < 0 then 0 else a) = A := by rw [← hA]; split <;> omega
  obtain ⟨Q, hQ⟩ : ∃ Q, max b 0 = Q := ⟨_, rfl⟩
  have hQ' : (if b < 0 then 0 else b) = Q := by rw [← hQ]; split <;> omega
  rw [hA, hQ] at f3
  have f2' : (b != -1) = true := by simpa using f2
  clear hA hQ
  go_enter Try.func14, Try.ntmps14
  go_wp2
  go_ret
  exact ⟨rfl, HB.out⟩
theorem fine_any : ∀ (N : Nat) (t : Nd) (v : Value) (w : World), t.sz ≤ N → t.sz ≤ 100000000 → NV w.heap.size w t v → Calls Try.prog 14 #[v] w fun e w' => e = .returned (.bool (fineN t)) ∧ Below w.heap.size w w' := by
  intro N
  induction N with
  | zero => intro t v w h; obtain ⟨k, m, a, b, g, n, st, ks⟩ := t; rw [Nd.sz] at h; omega
  | succ N ih =>
    intro t v w hN hN2 hv
    obtain ⟨k, m, a, b, g, n, st, ks, sa, sc, ao, cap, rfl, rfl, _, _, _, hk1, hk2, _, hkv⟩ := hv.open
    rw [Nd.sz] at hN hN2
    have hl := len_szL ks
    have HI : Hid (∀ (t : Nd) (v : Value) (W : World), t ∈ ks → NV W.heap.size W t v → Calls Try.prog 14 #[v] W fun e w' => e = .returned (.bool (fineN t)) ∧ Below W.heap.size W w') := fun t v W hm hv => by
      have := szL_mem hm
      exact ih t v W (by omega) (by omega) hv
    obtain ⟨nk, hnk⟩ : ∃ nk, ks.length = nk := ⟨_, rfl⟩
    rw [hnk]
    rw [hnk] at hk1 hl
    by_cases c1 : k = 8
    · subst c1
      by_cases c2 : b = -1
      · subst c2
        rw [fineN_good (by simp)]
        exact fine_any' m a g n ks sa _ sc ao nk cap w hnk (by omega) hk1 hkv HI
      have f2 : (b == -1) = false := by simpa using c2
      by_cases c3 : max a 0 > max b 0
      · rw [fineN_bad (by rw [f2, decide_eq_true c3]; rfl)]
        exact fine_falls m a b g n ks sa _ sc ao nk cap w hnk (by omega) hk1 hkv HI c2 (decide_eq_true c3)
      · rw [fineN_good (by rw [decide_eq_false c3]; simp)]
        exact fine_rises m a b g n ks sa _ sc ao nk cap w hnk (by omega) hk1 hkv HI c2 (decide_eq_false c3)
    · rw [fineN_good (by rw [show (k == 8) = false by simpa using c1]; rfl)]
      exact fine_other k m a b g n ks sa _ sc ao nk cap w hnk (by omega) hk1 hkv HI (by simpa using c1)
end Go.Proofs.Ytjblccgkocknbaa.wid
