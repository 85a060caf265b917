/- The document's Bound. -/
import Derived.Test.YtjbcapnpknbbaaaGreatWidRefA
import Derived.Test.YtjbcapnpknbbaaaGreatBndWidFromB
set_option linter.unusedVariables false
set_option linter.unusedSimpArgs false
namespace Go.Proofs.YtjbcapnpknbbaaaGreat.wid
open Go.RowKit
open Go.Proofs.YtjbcapnpknbbaaaGreat.nod
open Go.Proofs.YtjbcapnpknbbaaaGreat.rng (R RV ret_int ret_bool below_drewN info_parts own_below' flat flat_append flat_length flat_get)

set_option maxRecDepth 10000 in
set_option maxHeartbeats 4000000 in
theorem rbound_other (k : Int) (m a b : Int) (g : Bool) (n : ByteArray) (ks : List Nd) (sa : Option Addr) (sl sc : Nat) (ao : Option Addr) (nk cap : Nat) (w : World) (hnk : ks.length = nk) (hk3 : nk ≤ 1000000000) (hcap : nk ≤ cap) (hkv : KV w.heap.size w ao ks) (HI : Hid (∀ (t : Nd) (v : Value) (W : World), t ∈ ks → NV W.heap.size W t v → Calls Tryz.prog 21 #[v] W fun e w' => e = .returned (.int .i64 (errW (badN t))) ∧ Below W.heap.size W w')) (ho : ∀ (t : Nd) (v : Value) (W : World), t ∈ ks → NV W.heap.size W t v → Calls Tryz.prog 66 #[v] W fun e w' => e = .returned (.tuple #[.int .i64 (ofN t).1, .int .i64 (ofN t).2]) ∧ Below W.heap.size W w') (f1 : (k == 10) = false) :
    Calls Tryz.prog 21 #[.agg #[.int .i64 k, .int .i64 m, .int .i64 a, .int .i64 b, .bool g, .string n, .slice sa sl sc, .slice ao nk cap]] w fun e w' => e = .returned (.int .i64 (errW (badL ks))) ∧ Below w.heap.size w w' := by
  have HB : Hid (Below w.heap.size w (w.alloc (.cells #[.int .i64 k, .int .i64 m, .int .i64 a, .int .i64 b, .bool g, .string n, .slice sa sl sc, .slice ao nk cap] 25))) := (Below.refl _ w).alloc (Nat.le_refl _) _
  have HL : Hid (ks.length = nk) := hnk
  have HK : Hid (KV w.heap.size w ao ks) := hkv
  clear hkv hnk ho
  go_enter Tryz.func21, Tryz.ntmps21
  go_wp2
  go_loopw [35] (fun i wr => ∃ (j : Nat), j ≤ nk ∧ i = .int .i64 j ∧ Hid (badL (ks.take j) = false) ∧ Hid (Below w.heap.size w wr)) (fun i _ => nk - (intOf i).toNat)
  case atStart => exact ⟨0, Nat.zero_le _, rfl, rfl, HB⟩
  case round =>
    obtain ⟨j, hj, rfl, HE, HW⟩ := hrel
    clear HB
    by_cases hlt : j < nk
    · obtain ⟨t, ht⟩ := getX HL.out hlt
      obtain ⟨bb, off, rfl, hka⟩ := (HK.out.below HW.out).some (by have := HL.out; omega)
      obtain ⟨k', m', a', b', g', n', s', kk, sa', sc', ao', cap', rfl, ⟨e0, e1, e2, e3, e4, e5, e6, e7⟩, hv'⟩ := hka.kid ht
      have hmem := List.mem_of_getElem? ht
      generalize s'.length = sl' at *
      generalize kk.length = nk' at *
      have W1 : Below w.heap.size wr (wr.alloc (.cells #[.int .i64 k', .int .i64 m', .int .i64 a', .int .i64 b', .bool g', .string n', .slice sa' sl' sc', .slice ao' nk' cap'] 25)) := (Below.refl _ wr).alloc HW.out.size _
      have C := HI.out _ _ (wr.alloc (.cells #[.int .i64 k', .int .i64 m', .int .i64 a', .int .i64 b', .bool g', .string n', .slice sa' sl' sc', .slice ao' nk' cap'] 25)) hmem ((hv'.keep W1).wide (by have := HW.out.size; simp; omega))
      have HC : Hid (Below w.heap.size w (wr.alloc (.cells #[.int .i64 k', .int .i64 m', .int .i64 a', .int .i64 b', .bool g', .string n', .slice sa' sl' sc', .slice ao' nk' cap'] 25))) := HW.out.trans W1
      obtain ⟨r, hr⟩ : ∃ r, badN (.mk k' m' a' b' g' n' s' kk) = r := ⟨_, rfl⟩
      rw [hr] at C
      cases r with
      | true =>
        have HX : Hid (badL ks = true) := by unfold Hid; rw [badL_any]; exact List.any_eq_true.2 ⟨_, List.mem_of_getElem? ht, hr⟩
        simp only [errW, if_true] at C
        clear HE HK HW hka hv' hmem W1 HI hr ht
        go_wp2_with (go_at_call 21; refine C.mono ?_; rintro e w2 ⟨rfl, d⟩; have HG : Hid (Below w.heap.size w w2) := HC.out.trans (below_less d (by have := HC.out.size; omega)); clear d)
        go_ret
        exact ⟨by rw [HX.out]; rfl, HG.out⟩
      | false =>
        have HX : Hid (badL (ks.take (j + 1)) = false) := by unfold Hid; rw [takeX ht, badL_any, List.any_append, ← badL_any, HE.out]; simp [hr]
        simp only [errW, Bool.false_eq_true, if_false] at C
        clear HE HK HW hka hv' hmem W1 HI hr ht
        go_wp2_with (go_at_call 21; refine C.mono ?_; rintro e w2 ⟨rfl, d⟩; have HG : Hid (Below w.heap.size w w2) := HC.out.trans (below_less d (by have := HC.out.size; omega)); clear d)
        go_roundw
        case rel => exact ⟨j + 1, by omega, by go_num, HX, HG⟩
        case measure => simp [intOf]; omega
    · have HX : Hid (badL ks = false) := by
        unfold Hid; rw [← HE.out, List.take_of_length_le (by have := HL.out; omega)]
      clear HK HI
      go_wp2
      go_ret
      exact ⟨by rw [HX.out]; rfl, HW.out⟩
set_option maxRecDepth 10000 in
set_option maxHeartbeats 4000000 in
theorem rbound_ahead (m a b : Int) (g : Bool) (n : ByteArray) (ks : List Nd) (sa : Option Addr) (sl sc : Nat) (ao : Option Addr) (nk cap : Nat) (w : World) (hnk : ks.length = nk) (hk3 : nk ≤ 1000000000) (hcap : nk ≤ cap) (hkv : KV w.heap.size w ao ks) (HI : Hid (∀ (t : Nd) (v : Value) (W : World), t ∈ ks → NV W.heap.size W t v → Calls Tryz.prog 21 #[v] W fun e w' => e = .returned (.int .i64 (errW (badN t))) ∧ Below W.heap.size W w')) (ho : ∀ (t : Nd) (v : Value) (W : World), t ∈ ks → NV W.heap.size W t v → Calls Tryz.prog 66 #[v] W fun e w' => e = .returned (.tuple #[.int .i64 (ofN t).1, .int .i64 (ofN t).2]) ∧ Below W.heap.size W w') (f2 : (m == 2) = false) (f3 : (m == 3) = false) :
    Calls Tryz.prog 21 #[.agg #[.int .i64 10, .int .i64 m, .int .i64 a, .int .i64 b, .bool g, .string n, .slice sa sl sc, .slice ao nk cap]] w fun e w' => e = .returned (.int .i64 (errW (badL ks))) ∧ Below w.heap.size w w' := by
  have HB : Hid (Below w.heap.size w (w.alloc (.cells #[.int .i64 10, .int .i64 m, .int .i64 a, .int .i64 b, .bool g, .string n, .slice sa sl sc, .slice ao nk cap] 25))) := (Below.refl _ w).alloc (Nat.le_refl _) _
  have HL : Hid (ks.length = nk) := hnk
  have HK : Hid (KV w.heap.size w ao ks) := hkv
  clear hkv hnk ho
  go_enter Tryz.func21, Tryz.ntmps21
  go_wp2
  go_loopw [35] (fun i wr => ∃ (j : Nat), j ≤ nk ∧ i = .int .i64 j ∧ Hid (badL (ks.take j) = false) ∧ Hid (Below w.heap.size w wr)) (fun i _ => nk - (intOf i).toNat)
  case atStart => exact ⟨0, Nat.zero_le _, rfl, rfl, HB⟩
  case round =>
    obtain ⟨j, hj, rfl, HE, HW⟩ := hrel
    clear HB
    by_cases hlt : j < nk
    · obtain ⟨t, ht⟩ := getX HL.out hlt
      obtain ⟨bb, off, rfl, hka⟩ := (HK.out.below HW.out).some (by have := HL.out; omega)
      obtain ⟨k', m', a', b', g', n', s', kk, sa', sc', ao', cap', rfl, ⟨e0, e1, e2, e3, e4, e5, e6, e7⟩, hv'⟩ := hka.kid ht
      have hmem := List.mem_of_getElem? ht
      generalize s'.length = sl' at *
      generalize kk.length = nk' at *
      have W1 : Below w.heap.size wr (wr.alloc (.cells #[.int .i64 k', .int .i64 m', .int .i64 a', .int .i64 b', .bool g', .string n', .slice sa' sl' sc', .slice ao' nk' cap'] 25)) := (Below.refl _ wr).alloc HW.out.size _
      have C := HI.out _ _ (wr.alloc (.cells #[.int .i64 k', .int .i64 m', .int .i64 a', .int .i64 b', .bool g', .string n', .slice sa' sl' sc', .slice ao' nk' cap'] 25)) hmem ((hv'.keep W1).wide (by have := HW.out.size; simp; omega))
      have HC : Hid (Below w.heap.size w (wr.alloc (.cells #[.int .i64 k', .int .i64 m', .int .i64 a', .int .i64 b', .bool g', .string n', .slice sa' sl' sc', .slice ao' nk' cap'] 25))) := HW.out.trans W1
      obtain ⟨r, hr⟩ : ∃ r, badN (.mk k' m' a' b' g' n' s' kk) = r := ⟨_, rfl⟩
      rw [hr] at C
      cases r with
      | true =>
        have HX : Hid (badL ks = true) := by unfold Hid; rw [badL_any]; exact List.any_eq_true.2 ⟨_, List.mem_of_getElem? ht, hr⟩
        simp only [errW, if_true] at C
        clear HE HK HW hka hv' hmem W1 HI hr ht
        go_wp2_with (go_at_call 21; refine C.mono ?_; rintro e w2 ⟨rfl, d⟩; have HG : Hid (Below w.heap.size w w2) := HC.out.trans (below_less d (by have := HC.out.size; omega)); clear d)
        go_ret
        exact ⟨by rw [HX.out]; rfl, HG.out⟩
      | false =>
        have HX : Hid (badL (ks.take (j + 1)) = false) := by unfold Hid; rw [takeX ht, badL_any, List.any_append, ← badL_any, HE.out]; simp [hr]
        simp only [errW, Bool.false_eq_true, if_false] at C
        clear HE HK HW hka hv' hmem W1 HI hr ht
        go_wp2_with (go_at_call 21; refine C.mono ?_; rintro e w2 ⟨rfl, d⟩; have HG : Hid (Below w.heap.size w w2) := HC.out.trans (below_less d (by have := HC.out.size; omega)); clear d)
        go_roundw
        case rel => exact ⟨j + 1, by omega, by go_num, HX, HG⟩
        case measure => simp [intOf]; omega
    · have HX : Hid (badL ks = false) := by
        unfold Hid; rw [← HE.out, List.take_of_length_le (by have := HL.out; omega)]
      clear HK HI
      go_wp2
      go_ret
      exact ⟨by rw [HX.out]; rfl, HW.out⟩
set_option maxRecDepth 10000 in
set_option maxHeartbeats 4000000 in
theorem rbound_b2g (a b : Int) (g : Bool) (n : ByteArray) (ks : List Nd) (sa : Option Addr) (sl sc : Nat) (ao : Option Addr) (nk cap : Nat) (w : World) (hnk : ks.length = nk) (hk3 : nk ≤ 1000000000) (hcap : nk ≤ cap) (hkv : KV w.heap.size w ao ks) (HI : Hid (∀ (t : Nd) (v : Value) (W : World), t ∈ ks → NV W.heap.size W t v → Calls Tryz.prog 21 #[v] W fun e w' => e = .returned (.int .i64 (errW (badN t))) ∧ Below W.heap.size W w')) (ho : ∀ (t : Nd) (v : Value) (W : World), t ∈ ks → NV W.heap.size W t v → Calls Tryz.prog 66 #[v] W fun e w' => e = .returned (.tuple #[.int .i64 (ofN t).1, .int .i64 (ofN t).2]) ∧ Below W.heap.size W w') (hf : fits (only (ks.map ofN)) = true) :
    Calls Tryz.prog 21 #[.agg #[.int .i64 10, .int .i64 2, .int .i64 a, .int .i64 b, .bool g, .string n, .slice sa sl sc, .slice ao nk cap]] w fun e w' => e = .returned (.int .i64 (errW (badL ks))) ∧ Below w.heap.size w w' := by
  have HB : Hid (Below w.heap.size w (w.alloc (.cells #[.int .i64 10, .int .i64 2, .int .i64 a, .int .i64 b, .bool g, .string n, .slice sa sl sc, .slice ao nk cap] 25))) := (Below.refl _ w).alloc (Nat.le_refl _) _
  have HL : Hid (ks.length = nk) := hnk
  have HK : Hid (KV w.heap.size w ao ks) := hkv
  have HX : Hid (Bk (w.alloc (.cells #[.int .i64 10, .int .i64 2, .int .i64 a, .int .i64 b, .bool g, .string n, .slice sa sl sc, .slice ao nk cap] 25)) w.heap.size #[.int .i64 10, .int .i64 2, .int .i64 a, .int .i64 b, .bool g, .string n, .slice sa sl sc, .slice ao nk cap] 25) := Bk.new w _ _
  have C := rkid_any 10 2 a b g n ks sa sl sc ao nk cap (w.alloc (.cells #[.int .i64 10, .int .i64 2, .int .i64 a, .int .i64 b, .bool g, .string n, .slice sa sl sc, .slice ao nk cap] 25)) hnk hk3 hcap ((hkv.below HB.out).wide (by simp)) ho
  have hok := only_ok (ofs_ok ks)
  obtain ⟨y, hy⟩ : ∃ y, only (ks.map ofN) = y := ⟨_, rfl⟩
  rw [hy] at C hok hf
  obtain ⟨y1, y2⟩ := y
  obtain ⟨_, _, o3, _⟩ := hok
  simp only [fits] at C hf o3
  clear hkv hnk ho hy
  have g1 : decide (y2 < 0) = false := decide_eq_false (by simp at hf; omega)
  have g2 : decide (50 < y2) = false := decide_eq_false (by simp at hf; omega)
  clear hf o3
  go_enter Tryz.func21, Tryz.ntmps21
  go_wp2_with (go_at_call 61; refine C.mono ?_; rintro e w1 ⟨rfl, d⟩; have HG : Hid (Below w.heap.size w w1) := HB.out.trans (below_less d (by simp)); have x7 := (HX.out.on d).cell 7 (u := .slice ao nk cap) rfl; clear d)
  go_loopw [35] (fun i wr => ∃ (j : Nat), j ≤ nk ∧ i = .int .i64 j ∧ Hid (badL (ks.take j) = false) ∧ Hid (Below w.heap.size w wr)) (fun i _ => nk - (intOf i).toNat)
  case atStart => exact ⟨0, Nat.zero_le _, rfl, rfl, HG⟩
  case round =>
    obtain ⟨j, hj, rfl, HE, HW⟩ := hrel
    clear HB HG
    by_cases hlt : j < nk
    · obtain ⟨t, ht⟩ := getX HL.out hlt
      obtain ⟨bb, off, rfl, hka⟩ := (HK.out.below HW.out).some (by have := HL.out; omega)
      obtain ⟨k', m', a', b', g', n', s', kk, sa', sc', ao', cap', rfl, ⟨e0, e1, e2, e3, e4, e5, e6, e7⟩, hv'⟩ := hka.kid ht
      have hmem := List.mem_of_getElem? ht
      generalize s'.length = sl' at *
      generalize kk.length = nk' at *
      have W1 : Below w.heap.size wr (wr.alloc (.cells #[.int .i64 k', .int .i64 m', .int .i64 a', .int .i64 b', .bool g', .string n', .slice sa' sl' sc', .slice ao' nk' cap'] 25)) := (Below.refl _ wr).alloc HW.out.size _
      have C := HI.out _ _ (wr.alloc (.cells #[.int .i64 k', .int .i64 m', .int .i64 a', .int .i64 b', .bool g', .string n', .slice sa' sl' sc', .slice ao' nk' cap'] 25)) hmem ((hv'.keep W1).wide (by have := HW.out.size; simp; omega))
      have HC : Hid (Below w.heap.size w (wr.alloc (.cells #[.int .i64 k', .int .i64 m', .int .i64 a', .int .i64 b', .bool g', .string n', .slice sa' sl' sc', .slice ao' nk' cap'] 25))) := HW.out.trans W1
      obtain ⟨r, hr⟩ : ∃ r, badN (.mk k' m' a' b' g' n' s' kk) = r := ⟨_, rfl⟩
      rw [hr] at C
      cases r with
      | true =>
        have HX : Hid (badL ks = true) := by unfold Hid; rw [badL_any]; exact List.any_eq_true.2 ⟨_, List.mem_of_getElem? ht, hr⟩
        simp only [errW, if_true] at C
        clear HE HK HW hka hv' hmem W1 HI hr ht
        go_wp2_with (go_at_call 21; refine C.mono ?_; rintro e w2 ⟨rfl, d⟩; have HG : Hid (Below w.heap.size w w2) := HC.out.trans (below_less d (by have := HC.out.size; omega)); clear d)
        go_ret
        exact ⟨by rw [HX.out]; rfl, HG.out⟩
      | false =>
        have HX : Hid (badL (ks.take (j + 1)) = false) := by unfold Hid; rw [takeX ht, badL_any, List.any_append, ← badL_any, HE.out]; simp [hr]
        simp only [errW, Bool.false_eq_true, if_false] at C
        clear HE HK HW hka hv' hmem W1 HI hr ht
        go_wp2_with (go_at_call 21; refine C.mono ?_; rintro e w2 ⟨rfl, d⟩; have HG : Hid (Below w.heap.size w w2) := HC.out.trans (below_less d (by have := HC.out.size; omega)); clear d)
        go_roundw
        case rel => exact ⟨j + 1, by omega, by go_num, HX, HG⟩
        case measure => simp [intOf]; omega
    · have HX : Hid (badL ks = false) := by
        unfold Hid; rw [← HE.out, List.take_of_length_le (by have := HL.out; omega)]
      clear HK HI
      go_wp2
      go_ret
      exact ⟨by rw [HX.out]; rfl, HW.out⟩
set_option maxRecDepth 10000 in
set_option maxHeartbeats 4000000 in
theorem rbound_b2f (a b : Int) (g : Bool) (n : ByteArray) (ks : List Nd) (sa : Option Addr) (sl sc : Nat) (ao : Option Addr) (nk cap : Nat) (w : World) (hnk : ks.length = nk) (hk3 : nk ≤ 1000000000) (hcap : nk ≤ cap) (hkv : KV w.heap.size w ao ks) (HI : Hid (∀ (t : Nd) (v : Value) (W : World), t ∈ ks → NV W.heap.size W t v → Calls Tryz.prog 21 #[v] W fun e w' => e = .returned (.int .i64 (errW (badN t))) ∧ Below W.heap.size W w')) (ho : ∀ (t : Nd) (v : Value) (W : World), t ∈ ks → NV W.heap.size W t v → Calls Tryz.prog 66 #[v] W fun e w' => e = .returned (.tuple #[.int .i64 (ofN t).1, .int .i64 (ofN t).2]) ∧ Below W.heap.size W w') (hf : fits (only (ks.map ofN)) = false) :
    Calls Tryz.prog 21 #[.agg #[.int .i64 10, .int .i64 2, .int .i64 a, .int .i64 b, .bool g, .string n, .slice sa sl sc, .slice ao nk cap]] w fun e w' => e = .returned (.int .i64 (errW (true))) ∧ Below w.heap.size w w' := by
  have HB : Hid (Below w.heap.size w (w.alloc (.cells #[.int .i64 10, .int .i64 2, .int .i64 a, .int .i64 b, .bool g, .string n, .slice sa sl sc, .slice ao nk cap] 25))) := (Below.refl _ w).alloc (Nat.le_refl _) _
  have HL : Hid (ks.length = nk) := hnk
  have HK : Hid (KV w.heap.size w ao ks) := hkv
  have HX : Hid (Bk (w.alloc (.cells #[.int .i64 10, .int .i64 2, .int .i64 a, .int .i64 b, .bool g, .string n, .slice sa sl sc, .slice ao nk cap] 25)) w.heap.size #[.int .i64 10, .int .i64 2, .int .i64 a, .int .i64 b, .bool g, .string n, .slice sa sl sc, .slice ao nk cap] 25) := Bk.new w _ _
  have C := rkid_any 10 2 a b g n ks sa sl sc ao nk cap (w.alloc (.cells #[.int .i64 10, .int .i64 2, .int .i64 a, .int .i64 b, .bool g, .string n, .slice sa sl sc, .slice ao nk cap] 25)) hnk hk3 hcap ((hkv.below HB.out).wide (by simp)) ho
  have hok := only_ok (ofs_ok ks)
  obtain ⟨y, hy⟩ : ∃ y, only (ks.map ofN) = y := ⟨_, rfl⟩
  rw [hy] at C hok hf
  obtain ⟨y1, y2⟩ := y
  obtain ⟨_, _, o3, _⟩ := hok
  simp only [fits] at C hf o3
  clear hkv hnk ho hy
  by_cases c : y2 < 0
  · have g1 : decide (y2 < 0) = true := decide_eq_true c
    clear hf o3
    go_enter Tryz.func21, Tryz.ntmps21
    go_wp2_with (go_at_call 61; refine C.mono ?_; rintro e w1 ⟨rfl, d⟩; have HG : Hid (Below w.heap.size w w1) := HB.out.trans (below_less d (by simp)); have x7 := (HX.out.on d).cell 7 (u := .slice ao nk cap) rfl; clear d)
    go_ret
    exact ⟨rfl, HG.out⟩
  · have g1 : decide (y2 < 0) = false := decide_eq_false c
    have g2 : decide (50 < y2) = true := decide_eq_true (by simp at hf; omega)
    clear hf o3
    go_enter Tryz.func21, Tryz.ntmps21
    go_wp2_with (go_at_call 61; refine C.mono ?_; rintro e w1 ⟨rfl, d⟩; have HG : Hid (Below w.heap.size w w1) := HB.out.trans (below_less d (by simp)); have x7 := (HX.out.on d).cell 7 (u := .slice ao nk cap) rfl; clear d)
    go_ret
    exact ⟨rfl, HG.out⟩
set_option maxRecDepth 10000 in
set_option maxHeartbeats 4000000 in
theorem rbound_b3g (a b : Int) (g : Bool) (n : ByteArray) (ks : List Nd) (sa : Option Addr) (sl sc : Nat) (ao : Option Addr) (nk cap : Nat) (w : World) (hnk : ks.length = nk) (hk3 : nk ≤ 1000000000) (hcap : nk ≤ cap) (hkv : KV w.heap.size w ao ks) (HI : Hid (∀ (t : Nd) (v : Value) (W : World), t ∈ ks → NV W.heap.size W t v → Calls Tryz.prog 21 #[v] W fun e w' => e = .returned (.int .i64 (errW (badN t))) ∧ Below W.heap.size W w')) (ho : ∀ (t : Nd) (v : Value) (W : World), t ∈ ks → NV W.heap.size W t v → Calls Tryz.prog 66 #[v] W fun e w' => e = .returned (.tuple #[.int .i64 (ofN t).1, .int .i64 (ofN t).2]) ∧ Below W.heap.size W w') (hf : fits (only (ks.map ofN)) = true) :
    Calls Tryz.prog 21 #[.agg #[.int .i64 10, .int .i64 3, .int .i64 a, .int .i64 b, .bool g, .string n, .slice sa sl sc, .slice ao nk cap]] w fun e w' => e = .returned (.int .i64 (errW (badL ks))) ∧ Below w.heap.size w w' := by
  have HB : Hid (Below w.heap.size w (w.alloc (.cells #[.int .i64 10, .int .i64 3, .int .i64 a, .int .i64 b, .bool g, .string n, .slice sa sl sc, .slice ao nk cap] 25))) := (Below.refl _ w).alloc (Nat.le_refl _) _
  have HL : Hid (ks.length = nk) := hnk
  have HK : Hid (KV w.heap.size w ao ks) := hkv
  have HX : Hid (Bk (w.alloc (.cells #[.int .i64 10, .int .i64 3, .int .i64 a, .int .i64 b, .bool g, .string n, .slice sa sl sc, .slice ao nk cap] 25)) w.heap.size #[.int .i64 10, .int .i64 3, .int .i64 a, .int .i64 b, .bool g, .string n, .slice sa sl sc, .slice ao nk cap] 25) := Bk.new w _ _
  have C := rkid_any 10 3 a b g n ks sa sl sc ao nk cap (w.alloc (.cells #[.int .i64 10, .int .i64 3, .int .i64 a, .int .i64 b, .bool g, .string n, .slice sa sl sc, .slice ao nk cap] 25)) hnk hk3 hcap ((hkv.below HB.out).wide (by simp)) ho
  have hok := only_ok (ofs_ok ks)
  obtain ⟨y, hy⟩ : ∃ y, only (ks.map ofN) = y := ⟨_, rfl⟩
  rw [hy] at C hok hf
  obtain ⟨y1, y2⟩ := y
  obtain ⟨_, _, o3, _⟩ := hok
  simp only [fits] at C hf o3
  clear hkv hnk ho hy
  have g1 : decide (y2 < 0) = false := decide_eq_false (by simp at hf; omega)
  have g2 : decide (50 < y2) = false := decide_eq_false (by simp at hf; omega)
  clear hf o3
  go_enter Tryz.func21, Tryz.ntmps21
  go_wp2_with (go_at_call 61; refine C.mono ?_; rintro e w1 ⟨rfl, d⟩; have HG : Hid (Below w.heap.size w w1) := HB.out.trans (below_less d (by simp)); have x7 := (HX.out.on d).cell 7 (u := .slice ao nk cap) rfl; clear d)
  go_loopw [35] (fun i wr => ∃ (j : Nat), j ≤ nk ∧ i = .int .i64 j ∧ Hid (badL (ks.take j) = false) ∧ Hid (Below w.heap.size w wr)) (fun i _ => nk - (intOf i).toNat)
  case atStart => exact ⟨0, Nat.zero_le _, rfl, rfl, HG⟩
  case round =>
    obtain ⟨j, hj, rfl, HE, HW⟩ := hrel
    clear HB HG
    by_cases hlt : j < nk
    · obtain ⟨t, ht⟩ := getX HL.out hlt
      obtain ⟨bb, off, rfl, hka⟩ := (HK.out.below HW.out).some (by have := HL.out; omega)
      obtain ⟨k', m', a', b', g', n', s', kk, sa', sc', ao', cap', rfl, ⟨e0, e1, e2, e3, e4, e5, e6, e7⟩, hv'⟩ := hka.kid ht
      have hmem := List.mem_of_getElem? ht
      generalize s'.length = sl' at *
      generalize kk.length = nk' at *
      have W1 : Below w.heap.size wr (wr.alloc (.cells #[.int .i64 k', .int .i64 m', .int .i64 a', .int .i64 b', .bool g', .string n', .slice sa' sl' sc', .slice ao' nk' cap'] 25)) := (Below.refl _ wr).alloc HW.out.size _
      have C := HI.out _ _ (wr.alloc (.cells #[.int .i64 k', .int .i64 m', .int .i64 a', .int .i64 b', .bool g', .string n', .slice sa' sl' sc', .slice ao' nk' cap'] 25)) hmem ((hv'.keep W1).wide (by have := HW.out.size; simp; omega))
      have HC : Hid (Below w.heap.size w (wr.alloc (.cells #[.int .i64 k', .int .i64 m', .int .i64 a', .int .i64 b', .bool g', .string n', .slice sa' sl' sc', .slice ao' nk' cap'] 25))) := HW.out.trans W1
      obtain ⟨r, hr⟩ : ∃ r, badN (.mk k' m' a' b' g' n' s' kk) = r := ⟨_, rfl⟩
      rw [hr] at C
      cases r with
      | true =>
        have HX : Hid (badL ks = true) := by unfold Hid; rw [badL_any]; exact List.any_eq_true.2 ⟨_, List.mem_of_getElem? ht, hr⟩
        simp only [errW, if_true] at C
        clear HE HK HW hka hv' hmem W1 HI hr ht
        go_wp2_with (go_at_call 21; refine C.mono ?_; rintro e w2 ⟨rfl, d⟩; have HG : Hid (Below w.heap.size w w2) := HC.out.trans (below_less d (by have := HC.out.size; omega)); clear d)
        go_ret
        exact ⟨by rw [HX.out]; rfl, HG.out⟩
      | false =>
        have HX : Hid (badL (ks.take (j + 1)) = false) := by unfold Hid; rw [takeX ht, badL_any, List.any_append, ← badL_any, HE.out]; simp [hr]
        simp only [errW, Bool.false_eq_true, if_false] at C
        clear HE HK HW hka hv' hmem W1 HI hr ht
        go_wp2_with (go_at_call 21; refine C.mono ?_; rintro e w2 ⟨rfl, d⟩; have HG : Hid (Below w.heap.size w w2) := HC.out.trans (below_less d (by have := HC.out.size; omega)); clear d)
        go_roundw
        case rel => exact ⟨j + 1, by omega, by go_num, HX, HG⟩
        case measure => simp [intOf]; omega
    · have HX : Hid (badL ks = false) := by
        unfold Hid; rw [← HE.out, List.take_of_length_le (by have := HL.out; omega)]
      clear HK HI
      go_wp2
      go_ret
      exact ⟨by rw [HX.out]; rfl, HW.out⟩
set_option maxRecDepth 10000 in
set_option maxHeartbeats 4000000 in
theorem rbound_b3f (a b : Int) (g : Bool) (n : ByteArray) (ks : List Nd) (sa : Option Addr) (sl sc : Nat) (ao : Option Addr) (nk cap : Nat) (w : World) (hnk : ks.length = nk) (hk3 : nk ≤ 1000000000) (hcap : nk ≤ cap) (hkv : KV w.heap.size w ao ks) (HI : Hid (∀ (t : Nd) (v : Value) (W : World), t ∈ ks → NV W.heap.size W t v → Calls Tryz.prog 21 #[v] W fun e w' => e = .returned (.int .i64 (errW (badN t))) ∧ Below W.heap.size W w')) (ho : ∀ (t : Nd) (v : Value) (W : World), t ∈ ks → NV W.heap.size W t v → Calls Tryz.prog 66 #[v] W fun e w' => e = .returned (.tuple #[.int .i64 (ofN t).1, .int .i64 (ofN t).2]) ∧ Below W.heap.size W w') (hf : fits (only (ks.map ofN)) = false) :
    Calls Tryz.prog 21 #[.agg #[.int .i64 10, .int .i64 3, .int .i64 a, .int .i64 b, .bool g, .string n, .slice sa sl sc, .slice ao nk cap]] w fun e w' => e = .returned (.int .i64 (errW (true))) ∧ Below w.heap.size w w' := by
  have HB : Hid (Below w.heap.size w (w.alloc (.cells #[.int .i64 10, .int .i64 3, .int .i64 a, .int .i64 b, .bool g, .string n, .slice sa sl sc, .slice ao nk cap] 25))) := (Below.refl _ w).alloc (Nat.le_refl _) _
  have HL : Hid (ks.length = nk) := hnk
  have HK : Hid (KV w.heap.size w ao ks) := hkv
  have HX : Hid (Bk (w.alloc (.cells #[.int .i64 10, .int .i64 3, .int .i64 a, .int .i64 b, .bool g, .string n, .slice sa sl sc, .slice ao nk cap] 25)) w.heap.size #[.int .i64 10, .int .i64 3, .int .i64 a, .int .i64 b, .bool g, .string n, .slice sa sl sc, .slice ao nk cap] 25) := Bk.new w _ _
  have C := rkid_any 10 3 a b g n ks sa sl sc ao nk cap (w.alloc (.cells #[.int .i64 10, .int .i64 3, .int .i64 a, .int .i64 b, .bool g, .string n, .slice sa sl sc, .slice ao nk cap] 25)) hnk hk3 hcap ((hkv.below HB.out).wide (by simp)) ho
  have hok := only_ok (ofs_ok ks)
  obtain ⟨y, hy⟩ : ∃ y, only (ks.map ofN) = y := ⟨_, rfl⟩
  rw [hy] at C hok hf
  obtain ⟨y1, y2⟩ := y
  obtain ⟨_, _, o3, _⟩ := hok
  simp only [fits] at C hf o3
  clear hkv hnk ho hy
  by_cases c : y2 < 0
  · have g1 : decide (y2 < 0) = true := decide_eq_true c
    clear hf o3
    go_enter Tryz.func21, Tryz.ntmps21
    go_wp2_with (go_at_call 61; refine C.mono ?_; rintro e w1 ⟨rfl, d⟩; have HG : Hid (Below w.heap.size w w1) := HB.out.trans (below_less d (by simp)); have x7 := (HX.out.on d).cell 7 (u := .slice ao nk cap) rfl; clear d)
    go_ret
    exact ⟨rfl, HG.out⟩
  · have g1 : decide (y2 < 0) = false := decide_eq_false c
    have g2 : decide (50 < y2) = true := decide_eq_true (by simp at hf; omega)
    clear hf o3
    go_enter Tryz.func21, Tryz.ntmps21
    go_wp2_with (go_at_call 61; refine C.mono ?_; rintro e w1 ⟨rfl, d⟩; have HG : Hid (Below w.heap.size w w1) := HB.out.trans (below_less d (by simp)); have x7 := (HX.out.on d).cell 7 (u := .slice ao nk cap) rfl; clear d)
    go_ret
    exact ⟨rfl, HG.out⟩
theorem rbound_any : ∀ (N : Nat) (t : Nd) (v : Value) (w : World), t.sz ≤ N → t.sz ≤ 100000000 → NV w.heap.size w t v → Calls Tryz.prog 21 #[v] w fun e w' => e = .returned (.int .i64 (errW (badN t))) ∧ Below w.heap.size w w' := by
  intro N
  induction N with
  | zero => intro t v w h; obtain ⟨k, m, a, b, g, n, st, ks⟩ := t; rw [Nd.sz] at h; omega
  | succ N ih =>
    intro t v w hN hN2 hv
    obtain ⟨k, m, a, b, g, n, st, ks, sa, sc, ao, cap, rfl, rfl, _, _, _, hk1, hk2, _, hkv⟩ := hv.open
    rw [Nd.sz] at hN hN2
    have hl := len_szL ks
    have HI : Hid (∀ (t : Nd) (v : Value) (W : World), t ∈ ks → NV W.heap.size W t v → Calls Tryz.prog 21 #[v] W fun e w' => e = .returned (.int .i64 (errW (badN t))) ∧ Below W.heap.size W w') := fun t v W hm hv => by
      have := szL_mem hm
      exact ih t v W (by omega) (by omega) hv
    have ho : ∀ (t : Nd) (v : Value) (W : World), t ∈ ks → NV W.heap.size W t v → Calls Tryz.prog 66 #[v] W fun e w' => e = .returned (.tuple #[.int .i64 (ofN t).1, .int .i64 (ofN t).2]) ∧ Below W.heap.size W w' := fun t v W hm hv => by
      have := szL_mem hm
      exact rof_any _ t v W (Nat.le_refl _) (by omega) hv
    obtain ⟨nk, hnk⟩ : ∃ nk, ks.length = nk := ⟨_, rfl⟩
    rw [hnk, badN]
    rw [hnk] at hk1 hl
    by_cases c1 : k = 10
    · subst c1
      have cf : fits (only (ks.map ofN)) = false ∨ fits (only (ks.map ofN)) = true := by cases fits (only (ks.map ofN)) <;> simp
      by_cases c2 : m = 2
      · subst c2
        rcases cf with cf | cf
        · rw [cf, show (badL ks || (behind 10 2 && !false)) = true by simp [behind]]
          exact rbound_b2f a b g n ks sa _ sc ao nk cap w hnk (by omega) hk1 hkv HI ho cf
        · rw [cf, show (badL ks || (behind 10 2 && !true)) = badL ks by simp]
          exact rbound_b2g a b g n ks sa _ sc ao nk cap w hnk (by omega) hk1 hkv HI ho cf
      by_cases c3 : m = 3
      · subst c3
        rcases cf with cf | cf
        · rw [cf, show (badL ks || (behind 10 3 && !false)) = true by simp [behind]]
          exact rbound_b3f a b g n ks sa _ sc ao nk cap w hnk (by omega) hk1 hkv HI ho cf
        · rw [cf, show (badL ks || (behind 10 3 && !true)) = badL ks by simp]
          exact rbound_b3g a b g n ks sa _ sc ao nk cap w hnk (by omega) hk1 hkv HI ho cf
      · rw [show behind 10 m = false by simp [behind, c2, c3], Bool.false_and, Bool.or_false]
        exact rbound_ahead m a b g n ks sa _ sc ao nk cap w hnk (by omega) hk1 hkv HI ho (by simpa using c2) (by simpa using c3)
    · rw [show behind k m = false by simp [behind, c1], Bool.false_and, Bool.or_false]
      exact rbound_other k m a b g n ks sa _ sc ao nk cap w hnk (by omega) hk1 hkv HI ho (by simpa using c1)
end Go.Proofs.YtjbcapnpknbbaaaGreat.wid
