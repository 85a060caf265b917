/- Texts that the proof leans on, one behind the other. -/
import Derived.Test.YtjbcapnpknbbaaaGreatBndWidPure
import Derived.Test.YtjbcapnpknbbaaaGreatBndWidFrom

section
/- The document's plus, times, greater. -/
set_option linter.unusedVariables false
set_option linter.unusedSimpArgs false
namespace Go.Proofs.YtjbcapnpknbbaaaGreat.wid
open Go.RowKit
open Go.Proofs.YtjbcapnpknbbaaaGreat.nod
open Go.Proofs.YtjbcapnpknbbaaaGreat.rng (R RV ret_int ret_bool below_drewN info_parts own_below')

theorem rplus_any (a b : Int) (w : World) (h1 : -1 ≤ a) (h2 : a ≤ 1073741824) (h3 : -1 ≤ b) (h4 : b ≤ 1073741824) :
    Calls Tryz.prog 90 #[.int .i64 a, .int .i64 b] w fun e w' => e = .returned (.int .i64 (plusR a b)) ∧ w' = w := by
  by_cases c1 : a < 0
  · have HE : Hid (plusR a b = -1) := by unfold Hid plusR; rw [if_pos (.inl c1)]
    have f1 : decide (a < 0) = true := decide_eq_true c1
    go_enter Tryz.func90, Tryz.ntmps90
    go_wp2
    go_ret
    exact ⟨by rw [HE.out]; rfl, rfl⟩
  have f1 : decide (a < 0) = false := decide_eq_false c1
  by_cases c2 : b < 0
  · have HE : Hid (plusR a b = -1) := by unfold Hid plusR; rw [if_pos (.inr c2)]
    have f2 : decide (b < 0) = true := decide_eq_true c2
    go_enter Tryz.func90, Tryz.ntmps90
    go_wp2
    go_ret
    exact ⟨by rw [HE.out]; rfl, rfl⟩
  · have f2 : decide (b < 0) = false := decide_eq_false c2
    have HE : Hid (plusR a b = min (a + b) 1073741824) := by unfold Hid plusR; rw [if_neg (by omega)]
    obtain ⟨X, hX⟩ : ∃ X, min (a + b) 1073741824 = X := ⟨_, rfl⟩
    have hX' : (if 1073741824 < a + b then 1073741824 else a + b) = X := by rw [← hX]; split <;> omega
    rw [hX] at HE
    clear hX
    go_enter Tryz.func90, Tryz.ntmps90
    go_wp2
    go_ret
    exact ⟨by rw [HE.out]; rfl, rfl⟩
theorem rgreater_any (a b : Int) (w : World) (h1 : -1 ≤ a) (h2 : a ≤ 1073741824) (h3 : -1 ≤ b) (h4 : b ≤ 1073741824) :
    Calls Tryz.prog 91 #[.int .i64 a, .int .i64 b] w fun e w' => e = .returned (.int .i64 (greaterR a b)) ∧ w' = w := by
  by_cases c1 : a < 0
  · have HE : Hid (greaterR a b = -1) := by unfold Hid greaterR; rw [if_pos (.inl c1)]
    have f1 : decide (a < 0) = true := decide_eq_true c1
    go_enter Tryz.func91, Tryz.ntmps91
    go_wp2
    go_ret
    exact ⟨by rw [HE.out]; rfl, rfl⟩
  have f1 : decide (a < 0) = false := decide_eq_false c1
  by_cases c2 : b < 0
  · have HE : Hid (greaterR a b = -1) := by unfold Hid greaterR; rw [if_pos (.inr c2)]
    have f2 : decide (b < 0) = true := decide_eq_true c2
    go_enter Tryz.func91, Tryz.ntmps91
    go_wp2
    go_ret
    exact ⟨by rw [HE.out]; rfl, rfl⟩
  · have f2 : decide (b < 0) = false := decide_eq_false c2
    have HE : Hid (greaterR a b = max a b) := by unfold Hid greaterR; rw [if_neg (by omega)]
    obtain ⟨X, hX⟩ : ∃ X, max a b = X := ⟨_, rfl⟩
    have hX' : (if a < b then b else a) = X := by rw [← hX]; split <;> omega
    rw [hX] at HE
    clear hX
    go_enter Tryz.func91, Tryz.ntmps91
    go_wp2
    go_ret
    exact ⟨by rw [HE.out]; rfl, rfl⟩
theorem rtimes_any (a n : Int) (w : World) (h1 : -1 ≤ a) (h2 : a ≤ 1073741824) (h3 : I64 n) :
    Calls Tryz.prog 89 #[.int .i64 a, .int .i64 n] w fun e w' => e = .returned (.int .i64 (timesR a n)) ∧ w' = w := by
  obtain ⟨h3, h4⟩ := h3
  by_cases c1 : a = 0
  · subst c1
    have HE : Hid (timesR 0 n = 0) := by unfold Hid timesR; rw [if_pos (.inl rfl)]
    go_enter Tryz.func89, Tryz.ntmps89
    go_wp2
    go_ret
    exact ⟨by rw [HE.out]; rfl, rfl⟩
  have f1 : (a == 0) = false := by simpa using c1
  by_cases c2 : n = 0
  · subst c2
    have HE : Hid (timesR a 0 = 0) := by unfold Hid timesR; rw [if_pos (.inr rfl)]
    go_enter Tryz.func89, Tryz.ntmps89
    go_wp2
    go_ret
    exact ⟨by rw [HE.out]; rfl, rfl⟩
  have f2 : (n == 0) = false := by simpa using c2
  by_cases c3 : a < 0
  · have HE : Hid (timesR a n = -1) := by unfold Hid timesR; rw [if_neg (by omega), if_pos (.inl c3)]
    have f3 : decide (a < 0) = true := decide_eq_true c3
    go_enter Tryz.func89, Tryz.ntmps89
    go_wp2
    go_ret
    exact ⟨by rw [HE.out]; rfl, rfl⟩
  have f3 : decide (a < 0) = false := decide_eq_false c3
  by_cases c4 : n < 0
  · have HE : Hid (timesR a n = -1) := by unfold Hid timesR; rw [if_neg (by omega), if_pos (.inr c4)]
    have f4 : decide (n < 0) = true := decide_eq_true c4
    go_enter Tryz.func89, Tryz.ntmps89
    go_wp2
    go_ret
    exact ⟨by rw [HE.out]; rfl, rfl⟩
  have f4 : decide (n < 0) = false := decide_eq_false c4
  obtain ⟨Q, hQ⟩ : ∃ Q, Int.tdiv 1073741824 n = Q := ⟨_, rfl⟩
  have q1 : 0 ≤ Q ∧ Q ≤ 1073741824 := by
    rw [← hQ, Int.tdiv_eq_ediv_of_nonneg (by omega)]
    exact ⟨Int.ediv_nonneg (by omega) (by omega), Int.ediv_le_self _ (by omega)⟩
  obtain ⟨q1, q2⟩ := q1
  by_cases c5 : a > Q
  · have HE : Hid (timesR a n = 1073741824) := by unfold Hid timesR; rw [if_neg (by omega), if_neg (by omega), hQ, if_pos c5]
    have f5 : decide (a > Q) = true := decide_eq_true c5
    go_enter Tryz.func89, Tryz.ntmps89
    go_wp2
    go_ret
    exact ⟨by rw [HE.out]; rfl, rfl⟩
  · have HE : Hid (timesR a n = a * n) := by unfold Hid timesR; rw [if_neg (by omega), if_neg (by omega), hQ, if_neg c5]
    have hf := timesR_fits (a := a) (n := n) (by omega) (by omega) (by rw [hQ]; exact c5)
    have f5 : decide (a > Q) = false := decide_eq_false c5
    obtain ⟨X, hX⟩ : ∃ X, a * n = X := ⟨_, rfl⟩
    rw [hX] at hf HE
    obtain ⟨hf1, hf2⟩ := hf
    go_enter Tryz.func89, Tryz.ntmps89
    go_wp2
    go_ret
    exact ⟨by rw [HE.out]; rfl, rfl⟩
end Go.Proofs.YtjbcapnpknbbaaaGreat.wid
end

section
/- The document's Of. -/
set_option linter.unusedVariables false
set_option linter.unusedSimpArgs false
namespace Go.Proofs.YtjbcapnpknbbaaaGreat.wid
open Go.RowKit
open Go.Proofs.YtjbcapnpknbbaaaGreat.nod
open Go.Proofs.YtjbcapnpknbbaaaGreat.rng (R RV ret_int ret_bool below_drewN info_parts own_below')

set_option maxRecDepth 10000 in
theorem rkid_any (k : Int) (m a b : Int) (g : Bool) (n : ByteArray) (ks : List Nd) (sa : Option Addr) (sl sc : Nat) (ao : Option Addr) (nk cap : Nat) (w : World) (hnk : ks.length = nk) (hk3 : nk ≤ 1000000000) (hcap : nk ≤ cap) (hkv : KV w.heap.size w ao ks) (hi : ∀ (t : Nd) (v : Value) (W : World), t ∈ ks → NV W.heap.size W t v → Calls Tryz.prog 66 #[v] W fun e w' => e = .returned (.tuple #[.int .i64 (ofN t).1, .int .i64 (ofN t).2]) ∧ Below W.heap.size W w') :
    Calls Tryz.prog 61 #[.agg #[.int .i64 k, .int .i64 m, .int .i64 a, .int .i64 b, .bool g, .string n, .slice sa sl sc, .slice ao nk cap]] w fun e w' => e = .returned (.tuple #[.int .i64 (only (ks.map ofN)).1, .int .i64 (only (ks.map ofN)).2]) ∧ Below w.heap.size w w' := by
  have HB : Hid (Below w.heap.size w (w.alloc (.cells #[.int .i64 k, .int .i64 m, .int .i64 a, .int .i64 b, .bool g, .string n, .slice sa sl sc, .slice ao nk cap] 25))) := (Below.refl _ w).alloc (Nat.le_refl _) _
  cases ks with
  | nil =>
    simp at hnk
    subst hnk
    clear hkv hi
    go_enter Tryz.func61, Tryz.ntmps61
    go_wp2
    go_ret2
    exact ⟨rfl, HB.out⟩
  | cons t ts =>
    obtain ⟨bb, off, rfl, hka⟩ := (hkv.below HB.out).some (by simp)
    obtain ⟨k', m', a', b', g', n', s', kk, sa', sc', ao', cap', rfl, ⟨e0, e1, e2, e3, e4, e5, e6, e7⟩, hv'⟩ := hka.kid (i := 0) rfl
    simp only [Nat.zero_mul, Nat.add_zero] at e0 e1 e2 e3 e4 e5 e6 e7
    generalize s'.length = sl' at *
    generalize kk.length = nk' at *
    have C := hi _ _ (w.alloc (.cells #[.int .i64 k, .int .i64 m, .int .i64 a, .int .i64 b, .bool g, .string n, .slice sa sl sc, .slice (some ⟨bb, off, none⟩) nk cap] 25)) (by simp) (hv'.wide (by simp))
    obtain ⟨r, hr⟩ : ∃ r, ofN (.mk k' m' a' b' g' n' s' kk) = r := ⟨_, rfl⟩
    have HF : Hid (only (List.map ofN (.mk k' m' a' b' g' n' s' kk :: ts)) = r) := hr
    rw [HF.out]
    rw [hr] at C
    obtain ⟨r1, r2⟩ := r
    simp only at C
    have hn0 : ((nk : Int) == 0) = false := by rw [← hnk]; simp; omega
    have hn1 : 0 < nk := by rw [← hnk]; simp
    clear hkv hka hv' hi hr hnk
    go_enter Tryz.func61, Tryz.ntmps61
    go_wp2_with (go_at_call 66; refine C.mono ?_; rintro e w1 ⟨rfl, d⟩; have HG : Hid (Below w.heap.size w w1) := HB.out.trans (below_less d (by simp)); clear d)
    go_ret2
    exact ⟨rfl, HG.out⟩
set_option maxRecDepth 10000 in
set_option maxHeartbeats 4000000 in
theorem rof_set (m a b : Int) (g : Bool) (n : ByteArray) (ks : List Nd) (sa : Option Addr) (sl sc : Nat) (ao : Option Addr) (nk cap : Nat) (w : World) (hnk : ks.length = nk) (hk3 : nk ≤ 1000000000) (hcap : nk ≤ cap) (hkv : KV w.heap.size w ao ks) (hi : ∀ (t : Nd) (v : Value) (W : World), t ∈ ks → NV W.heap.size W t v → Calls Tryz.prog 66 #[v] W fun e w' => e = .returned (.tuple #[.int .i64 (ofN t).1, .int .i64 (ofN t).2]) ∧ Below W.heap.size W w') :
    Calls Tryz.prog 66 #[.agg #[.int .i64 15, .int .i64 m, .int .i64 a, .int .i64 b, .bool g, .string n, .slice sa sl sc, .slice ao nk cap]] w fun e w' => e = .returned (.tuple #[.int .i64 (((1, 1) : R)).1, .int .i64 (((1, 1) : R)).2]) ∧ Below w.heap.size w w' := by
  have HB : Hid (Below w.heap.size w (w.alloc (.cells #[.int .i64 15, .int .i64 m, .int .i64 a, .int .i64 b, .bool g, .string n, .slice sa sl sc, .slice ao nk cap] 25))) := (Below.refl _ w).alloc (Nat.le_refl _) _
  clear hkv hi hnk
  go_enter Tryz.func66, Tryz.ntmps66
  go_wp2
  go_ret2
  exact ⟨rfl, HB.out⟩
set_option maxRecDepth 10000 in
set_option maxHeartbeats 4000000 in
theorem rof_back (m a b : Int) (g : Bool) (n : ByteArray) (ks : List Nd) (sa : Option Addr) (sl sc : Nat) (ao : Option Addr) (nk cap : Nat) (w : World) (hnk : ks.length = nk) (hk3 : nk ≤ 1000000000) (hcap : nk ≤ cap) (hkv : KV w.heap.size w ao ks) (hi : ∀ (t : Nd) (v : Value) (W : World), t ∈ ks → NV W.heap.size W t v → Calls Tryz.prog 66 #[v] W fun e w' => e = .returned (.tuple #[.int .i64 (ofN t).1, .int .i64 (ofN t).2]) ∧ Below W.heap.size W w') :
    Calls Tryz.prog 66 #[.agg #[.int .i64 13, .int .i64 m, .int .i64 a, .int .i64 b, .bool g, .string n, .slice sa sl sc, .slice ao nk cap]] w fun e w' => e = .returned (.tuple #[.int .i64 (((0, -1) : R)).1, .int .i64 (((0, -1) : R)).2]) ∧ Below w.heap.size w w' := by
  have HB : Hid (Below w.heap.size w (w.alloc (.cells #[.int .i64 13, .int .i64 m, .int .i64 a, .int .i64 b, .bool g, .string n, .slice sa sl sc, .slice ao nk cap] 25))) := (Below.refl _ w).alloc (Nat.le_refl _) _
  clear hkv hi hnk
  go_enter Tryz.func66, Tryz.ntmps66
  go_wp2
  go_ret2
  exact ⟨rfl, HB.out⟩
set_option maxRecDepth 10000 in
set_option maxHeartbeats 4000000 in
theorem rof_cluster (m a b : Int) (g : Bool) (n : ByteArray) (ks : List Nd) (sa : Option Addr) (sl sc : Nat) (ao : Option Addr) (nk cap : Nat) (w : World) (hnk : ks.length = nk) (hk3 : nk ≤ 1000000000) (hcap : nk ≤ cap) (hkv : KV w.heap.size w ao ks) (hi : ∀ (t : Nd) (v : Value) (W : World), t ∈ ks → NV W.heap.size W t v → Calls Tryz.prog 66 #[v] W fun e w' => e = .returned (.tuple #[.int .i64 (ofN t).1, .int .i64 (ofN t).2]) ∧ Below W.heap.size W w') :
    Calls Tryz.prog 66 #[.agg #[.int .i64 14, .int .i64 m, .int .i64 a, .int .i64 b, .bool g, .string n, .slice sa sl sc, .slice ao nk cap]] w fun e w' => e = .returned (.tuple #[.int .i64 (((1, -1) : R)).1, .int .i64 (((1, -1) : R)).2]) ∧ Below w.heap.size w w' := by
  have HB : Hid (Below w.heap.size w (w.alloc (.cells #[.int .i64 14, .int .i64 m, .int .i64 a, .int .i64 b, .bool g, .string n, .slice sa sl sc, .slice ao nk cap] 25))) := (Below.refl _ w).alloc (Nat.le_refl _) _
  clear hkv hi hnk
  go_enter Tryz.func66, Tryz.ntmps66
  go_wp2
  go_ret2
  exact ⟨rfl, HB.out⟩
set_option maxRecDepth 10000 in
set_option maxHeartbeats 4000000 in
theorem rof_none (k : Int) (m a b : Int) (g : Bool) (n : ByteArray) (ks : List Nd) (sa : Option Addr) (sl sc : Nat) (ao : Option Addr) (nk cap : Nat) (w : World) (hnk : ks.length = nk) (hk3 : nk ≤ 1000000000) (hcap : nk ≤ cap) (hkv : KV w.heap.size w ao ks) (hi : ∀ (t : Nd) (v : Value) (W : World), t ∈ ks → NV W.heap.size W t v → Calls Tryz.prog 66 #[v] W fun e w' => e = .returned (.tuple #[.int .i64 (ofN t).1, .int .i64 (ofN t).2]) ∧ Below W.heap.size W w') (f15 : (k == 15) = false) (f13 : (k == 13) = false) (f14 : (k == 14) = false) (f9 : (k == 9) = false) (f11 : (k == 11) = false) (f8 : (k == 8) = false) (f6 : (k == 6) = false) (f7 : (k == 7) = false) :
    Calls Tryz.prog 66 #[.agg #[.int .i64 k, .int .i64 m, .int .i64 a, .int .i64 b, .bool g, .string n, .slice sa sl sc, .slice ao nk cap]] w fun e w' => e = .returned (.tuple #[.int .i64 (((0, 0) : R)).1, .int .i64 (((0, 0) : R)).2]) ∧ Below w.heap.size w w' := by
  have HB : Hid (Below w.heap.size w (w.alloc (.cells #[.int .i64 k, .int .i64 m, .int .i64 a, .int .i64 b, .bool g, .string n, .slice sa sl sc, .slice ao nk cap] 25))) := (Below.refl _ w).alloc (Nat.le_refl _) _
  clear hkv hi hnk
  go_enter Tryz.func66, Tryz.ntmps66
  go_wp2
  go_ret2
  exact ⟨rfl, HB.out⟩
set_option maxRecDepth 10000 in
set_option maxHeartbeats 4000000 in
theorem rof_group (m a b : Int) (g : Bool) (n : ByteArray) (ks : List Nd) (sa : Option Addr) (sl sc : Nat) (ao : Option Addr) (nk cap : Nat) (w : World) (hnk : ks.length = nk) (hk3 : nk ≤ 1000000000) (hcap : nk ≤ cap) (hkv : KV w.heap.size w ao ks) (hi : ∀ (t : Nd) (v : Value) (W : World), t ∈ ks → NV W.heap.size W t v → Calls Tryz.prog 66 #[v] W fun e w' => e = .returned (.tuple #[.int .i64 (ofN t).1, .int .i64 (ofN t).2]) ∧ Below W.heap.size W w') :
    Calls Tryz.prog 66 #[.agg #[.int .i64 9, .int .i64 m, .int .i64 a, .int .i64 b, .bool g, .string n, .slice sa sl sc, .slice ao nk cap]] w fun e w' => e = .returned (.tuple #[.int .i64 (only (ks.map ofN)).1, .int .i64 (only (ks.map ofN)).2]) ∧ Below w.heap.size w w' := by
  have HB : Hid (Below w.heap.size w (w.alloc (.cells #[.int .i64 9, .int .i64 m, .int .i64 a, .int .i64 b, .bool g, .string n, .slice sa sl sc, .slice ao nk cap] 25))) := (Below.refl _ w).alloc (Nat.le_refl _) _
  have HX : Hid (Bk (w.alloc (.cells #[.int .i64 9, .int .i64 m, .int .i64 a, .int .i64 b, .bool g, .string n, .slice sa sl sc, .slice ao nk cap] 25)) w.heap.size #[.int .i64 9, .int .i64 m, .int .i64 a, .int .i64 b, .bool g, .string n, .slice sa sl sc, .slice ao nk cap] 25) := Bk.new w _ _
  have C := rkid_any 9 m a b g n ks sa sl sc ao nk cap (w.alloc (.cells #[.int .i64 9, .int .i64 m, .int .i64 a, .int .i64 b, .bool g, .string n, .slice sa sl sc, .slice ao nk cap] 25)) hnk hk3 hcap ((hkv.below HB.out).wide (by simp)) hi
  have hok := only_ok (ofs_ok ks)
  obtain ⟨y, hy⟩ : ∃ y, only (ks.map ofN) = y := ⟨_, rfl⟩
  have HY : Hid (only (ks.map ofN) = y) := hy
  rw [hy] at C hok
  obtain ⟨y1, y2⟩ := y
  simp only at C
  rw [hy]
  clear hkv hi hnk hy
  go_enter Tryz.func66, Tryz.ntmps66
  go_wp2_with (go_at_call 61; refine C.mono ?_; rintro e w1 ⟨rfl, d⟩; have HG : Hid (Below w.heap.size w w1) := HB.out.trans (below_less d (by simp)); clear d)
  go_ret2
  exact ⟨rfl, HG.out⟩
set_option maxRecDepth 10000 in
set_option maxHeartbeats 4000000 in
theorem rof_atomic (m a b : Int) (g : Bool) (n : ByteArray) (ks : List Nd) (sa : Option Addr) (sl sc : Nat) (ao : Option Addr) (nk cap : Nat) (w : World) (hnk : ks.length = nk) (hk3 : nk ≤ 1000000000) (hcap : nk ≤ cap) (hkv : KV w.heap.size w ao ks) (hi : ∀ (t : Nd) (v : Value) (W : World), t ∈ ks → NV W.heap.size W t v → Calls Tryz.prog 66 #[v] W fun e w' => e = .returned (.tuple #[.int .i64 (ofN t).1, .int .i64 (ofN t).2]) ∧ Below W.heap.size W w') :
    Calls Tryz.prog 66 #[.agg #[.int .i64 11, .int .i64 m, .int .i64 a, .int .i64 b, .bool g, .string n, .slice sa sl sc, .slice ao nk cap]] w fun e w' => e = .returned (.tuple #[.int .i64 (only (ks.map ofN)).1, .int .i64 (only (ks.map ofN)).2]) ∧ Below w.heap.size w w' := by
  have HB : Hid (Below w.heap.size w (w.alloc (.cells #[.int .i64 11, .int .i64 m, .int .i64 a, .int .i64 b, .bool g, .string n, .slice sa sl sc, .slice ao nk cap] 25))) := (Below.refl _ w).alloc (Nat.le_refl _) _
  have HX : Hid (Bk (w.alloc (.cells #[.int .i64 11, .int .i64 m, .int .i64 a, .int .i64 b, .bool g, .string n, .slice sa sl sc, .slice ao nk cap] 25)) w.heap.size #[.int .i64 11, .int .i64 m, .int .i64 a, .int .i64 b, .bool g, .string n, .slice sa sl sc, .slice ao nk cap] 25) := Bk.new w _ _
  have C := rkid_any 11 m a b g n ks sa sl sc ao nk cap (w.alloc (.cells #[.int .i64 11, .int .i64 m, .int .i64 a, .int .i64 b, .bool g, .string n, .slice sa sl sc, .slice ao nk cap] 25)) hnk hk3 hcap ((hkv.below HB.out).wide (by simp)) hi
  have hok := only_ok (ofs_ok ks)
  obtain ⟨y, hy⟩ : ∃ y, only (ks.map ofN) = y := ⟨_, rfl⟩
  have HY : Hid (only (ks.map ofN) = y) := hy
  rw [hy] at C hok
  obtain ⟨y1, y2⟩ := y
  simp only at C
  rw [hy]
  clear hkv hi hnk hy
  go_enter Tryz.func66, Tryz.ntmps66
  go_wp2_with (go_at_call 61; refine C.mono ?_; rintro e w1 ⟨rfl, d⟩; have HG : Hid (Below w.heap.size w w1) := HB.out.trans (below_less d (by simp)); clear d)
  go_ret2
  exact ⟨rfl, HG.out⟩
set_option maxRecDepth 10000 in
set_option maxHeartbeats 4000000 in
theorem rof_rep (m a b : Int) (g : Bool) (n : ByteArray) (ks : List Nd) (sa : Option Addr) (sl sc : Nat) (ao : Option Addr) (nk cap : Nat) (w : World) (hnk : ks.length = nk) (hk3 : nk ≤ 1000000000) (hcap : nk ≤ cap) (hkv : KV w.heap.size w ao ks) (hi : ∀ (t : Nd) (v : Value) (W : World), t ∈ ks → NV W.heap.size W t v → Calls Tryz.prog 66 #[v] W fun e w' => e = .returned (.tuple #[.int .i64 (ofN t).1, .int .i64 (ofN t).2]) ∧ Below W.heap.size W w') (hb : I64 b) (ha : I64 a) (f1 : (b == -1) = false) :
    Calls Tryz.prog 66 #[.agg #[.int .i64 8, .int .i64 m, .int .i64 a, .int .i64 b, .bool g, .string n, .slice sa sl sc, .slice ao nk cap]] w fun e w' => e = .returned (.tuple #[.int .i64 (timesA (only (ks.map ofN)) a b).1, .int .i64 (timesA (only (ks.map ofN)) a b).2]) ∧ Below w.heap.size w w' := by
  have HB : Hid (Below w.heap.size w (w.alloc (.cells #[.int .i64 8, .int .i64 m, .int .i64 a, .int .i64 b, .bool g, .string n, .slice sa sl sc, .slice ao nk cap] 25))) := (Below.refl _ w).alloc (Nat.le_refl _) _
  have HX : Hid (Bk (w.alloc (.cells #[.int .i64 8, .int .i64 m, .int .i64 a, .int .i64 b, .bool g, .string n, .slice sa sl sc, .slice ao nk cap] 25)) w.heap.size #[.int .i64 8, .int .i64 m, .int .i64 a, .int .i64 b, .bool g, .string n, .slice sa sl sc, .slice ao nk cap] 25) := Bk.new w _ _
  have C := rkid_any 8 m a b g n ks sa sl sc ao nk cap (w.alloc (.cells #[.int .i64 8, .int .i64 m, .int .i64 a, .int .i64 b, .bool g, .string n, .slice sa sl sc, .slice ao nk cap] 25)) hnk hk3 hcap ((hkv.below HB.out).wide (by simp)) hi
  have hok := only_ok (ofs_ok ks)
  obtain ⟨y, hy⟩ : ∃ y, only (ks.map ofN) = y := ⟨_, rfl⟩
  have HY : Hid (only (ks.map ofN) = y) := hy
  rw [hy] at C hok
  obtain ⟨y1, y2⟩ := y
  simp only at C
  obtain ⟨A, hA⟩ : ∃ A, max a 0 = A := ⟨_, rfl⟩
  have hA' : (if a < 0 then 0 else a) = A := by rw [← hA]; split <;> omega
  obtain ⟨Q, hQ⟩ : ∃ Q, max b 0 = Q := ⟨_, rfl⟩
  have hQ' : (if b < 0 then 0 else b) = Q := by rw [← hQ]; split <;> omega
  have T1 : Hid (∀ W, Calls Tryz.prog 89 #[.int .i64 y1, .int .i64 A] W fun e w' => e = .returned (.int .i64 (timesR y1 A)) ∧ W = w') := fun W => (rtimes_any y1 A W (by have := hok.1; simp only at this; omega) hok.2.1 (by unfold I64 at *; omega)).mono (by rintro e w' ⟨rfl, rfl⟩; exact ⟨rfl, rfl⟩)
  have T2 : Hid (∀ W, Calls Tryz.prog 89 #[.int .i64 y2, .int .i64 Q] W fun e w' => e = .returned (.int .i64 (timesR y2 Q)) ∧ W = w') := fun W => (rtimes_any y2 Q W hok.2.2.1 hok.2.2.2 (by unfold I64 at *; omega)).mono (by rintro e w' ⟨rfl, rfl⟩; exact ⟨rfl, rfl⟩)
  have HV : Hid (timesA (only (ks.map ofN)) a b = (timesR y1 A, timesR y2 Q)) := by
    unfold Hid; rw [hy, ← timesR_eq a b hok, hA]; simp only; rw [if_neg (by simpa using f1), hQ]
  rw [HV.out]
  generalize timesR y1 A = z1 at *
  generalize timesR y2 Q = z2 at *
  clear hkv hi hnk hy hA hQ hok
  go_enter Tryz.func66, Tryz.ntmps66
  go_wp2_with (first
    | (go_at_call_of 89 (Value.int IntKind.i64 y1); refine (T1.out _).mono ?_; rintro e w2 ⟨rfl, rfl⟩)
    | (go_at_call 89; refine (T2.out _).mono ?_; rintro e w2 ⟨rfl, rfl⟩)
    | (go_at_call 61; refine C.mono ?_; rintro e w1 ⟨rfl, d⟩; have HG : Hid (Below w.heap.size w w1) := HB.out.trans (below_less d (by simp)); have x2 := (HX.out.on d).cell 2 (u := .int .i64 a) rfl; have x3 := (HX.out.on d).cell 3 (u := .int .i64 b) rfl; clear d))
  go_ret2
  exact ⟨rfl, HG.out⟩
set_option maxRecDepth 10000 in
set_option maxHeartbeats 4000000 in
theorem rof_reps (m a : Int) (g : Bool) (n : ByteArray) (ks : List Nd) (sa : Option Addr) (sl sc : Nat) (ao : Option Addr) (nk cap : Nat) (w : World) (hnk : ks.length = nk) (hk3 : nk ≤ 1000000000) (hcap : nk ≤ cap) (hkv : KV w.heap.size w ao ks) (hi : ∀ (t : Nd) (v : Value) (W : World), t ∈ ks → NV W.heap.size W t v → Calls Tryz.prog 66 #[v] W fun e w' => e = .returned (.tuple #[.int .i64 (ofN t).1, .int .i64 (ofN t).2]) ∧ Below W.heap.size W w') (ha : I64 a) :
    Calls Tryz.prog 66 #[.agg #[.int .i64 8, .int .i64 m, .int .i64 a, .int .i64 (-1), .bool g, .string n, .slice sa sl sc, .slice ao nk cap]] w fun e w' => e = .returned (.tuple #[.int .i64 (timesA (only (ks.map ofN)) a (-1)).1, .int .i64 (timesA (only (ks.map ofN)) a (-1)).2]) ∧ Below w.heap.size w w' := by
  have HB : Hid (Below w.heap.size w (w.alloc (.cells #[.int .i64 8, .int .i64 m, .int .i64 a, .int .i64 (-1), .bool g, .string n, .slice sa sl sc, .slice ao nk cap] 25))) := (Below.refl _ w).alloc (Nat.le_refl _) _
  have HX : Hid (Bk (w.alloc (.cells #[.int .i64 8, .int .i64 m, .int .i64 a, .int .i64 (-1), .bool g, .string n, .slice sa sl sc, .slice ao nk cap] 25)) w.heap.size #[.int .i64 8, .int .i64 m, .int .i64 a, .int .i64 (-1), .bool g, .string n, .slice sa sl sc, .slice ao nk cap] 25) := Bk.new w _ _
  have C := rkid_any 8 m a (-1) g n ks sa sl sc ao nk cap (w.alloc (.cells #[.int .i64 8, .int .i64 m, .int .i64 a, .int .i64 (-1), .bool g, .string n, .slice sa sl sc, .slice ao nk cap] 25)) hnk hk3 hcap ((hkv.below HB.out).wide (by simp)) hi
  have hok := only_ok (ofs_ok ks)
  obtain ⟨y, hy⟩ : ∃ y, only (ks.map ofN) = y := ⟨_, rfl⟩
  have HY : Hid (only (ks.map ofN) = y) := hy
  rw [hy] at C hok
  obtain ⟨y1, y2⟩ := y
  simp only at C
  obtain ⟨A, hA⟩ : ∃ A, max a 0 = A := ⟨_, rfl⟩
  have hA' : (if a < 0 then 0 else a) = A := by rw [← hA]; split <;> omega
  have T1 : Hid (∀ W, Calls Tryz.prog 89 #[.int .i64 y1, .int .i64 A] W fun e w' => e = .returned (.int .i64 (timesR y1 A)) ∧ W = w') := fun W => (rtimes_any y1 A W (by have := hok.1; simp only at this; omega) hok.2.1 (by unfold I64 at *; omega)).mono (by rintro e w' ⟨rfl, rfl⟩; exact ⟨rfl, rfl⟩)
  have T2 : Hid (∀ W, Calls Tryz.prog 89 #[.int .i64 y2, .int .i64 (-1)] W fun e w' => e = .returned (.int .i64 (timesR y2 (-1))) ∧ W = w') := fun W => (rtimes_any y2 (-1) W hok.2.2.1 hok.2.2.2 (by unfold I64 at *; omega)).mono (by rintro e w' ⟨rfl, rfl⟩; exact ⟨rfl, rfl⟩)
  have HV : Hid (timesA (only (ks.map ofN)) a (-1) = (timesR y1 A, timesR y2 (-1))) := by
    unfold Hid; rw [hy, ← timesR_eq a (-1) hok, hA]; simp only; rw [if_pos trivial]
  rw [HV.out]
  generalize timesR y1 A = z1 at *
  generalize timesR y2 (-1) = z2 at *
  clear hkv hi hnk hy hA  hok
  go_enter Tryz.func66, Tryz.ntmps66
  go_wp2_with (first
    | (go_at_call_of 89 (Value.int IntKind.i64 y1); refine (T1.out _).mono ?_; rintro e w2 ⟨rfl, rfl⟩)
    | (go_at_call 89; refine (T2.out _).mono ?_; rintro e w2 ⟨rfl, rfl⟩)
    | (go_at_call 61; refine C.mono ?_; rintro e w1 ⟨rfl, d⟩; have HG : Hid (Below w.heap.size w w1) := HB.out.trans (below_less d (by simp)); have x2 := (HX.out.on d).cell 2 (u := .int .i64 a) rfl; have x3 := (HX.out.on d).cell 3 (u := .int .i64 (-1)) rfl; clear d))
  go_ret2
  exact ⟨rfl, HG.out⟩
set_option maxRecDepth 10000 in
set_option maxHeartbeats 4000000 in
theorem rof_seq (m a b : Int) (g : Bool) (n : ByteArray) (ks : List Nd) (sa : Option Addr) (sl sc : Nat) (ao : Option Addr) (nk cap : Nat) (w : World) (hnk : ks.length = nk) (hk3 : nk ≤ 1000000000) (hcap : nk ≤ cap) (hkv : KV w.heap.size w ao ks) (hi : ∀ (t : Nd) (v : Value) (W : World), t ∈ ks → NV W.heap.size W t v → Calls Tryz.prog 66 #[v] W fun e w' => e = .returned (.tuple #[.int .i64 (ofN t).1, .int .i64 (ofN t).2]) ∧ Below W.heap.size W w') :
    Calls Tryz.prog 66 #[.agg #[.int .i64 6, .int .i64 m, .int .i64 a, .int .i64 b, .bool g, .string n, .slice sa sl sc, .slice ao nk cap]] w fun e w' => e = .returned (.tuple #[.int .i64 ((ks.map ofN).foldl plusA (0, 0)).1, .int .i64 ((ks.map ofN).foldl plusA (0, 0)).2]) ∧ Below w.heap.size w w' := by
  have HB : Hid (Below w.heap.size w (w.alloc (.cells #[.int .i64 6, .int .i64 m, .int .i64 a, .int .i64 b, .bool g, .string n, .slice sa sl sc, .slice ao nk cap] 25))) := (Below.refl _ w).alloc (Nat.le_refl _) _
  have HL : Hid (ks.length = nk) := hnk
  have HK : Hid (KV w.heap.size w ao ks) := hkv
  have HI : Hid (∀ (t : Nd) (v : Value) (W : World), t ∈ ks → NV W.heap.size W t v → Calls Tryz.prog 66 #[v] W fun e w' => e = .returned (.tuple #[.int .i64 (ofN t).1, .int .i64 (ofN t).2]) ∧ Below W.heap.size W w') := hi
  clear hkv hi hnk
  go_enter Tryz.func66, Tryz.ntmps66
  go_wp2
  go_loopw [4, 5, 56] (fun lo hi i wr => ∃ (j : Nat) (x y : Int), j ≤ nk ∧ lo = .int .i64 x ∧ hi = .int .i64 y ∧ i = .int .i64 j ∧ Hid (((ks.map ofN).take j).foldl plusA (0, 0) = (x, y)) ∧ 0 ≤ x ∧ x ≤ 1073741824 ∧ -1 ≤ y ∧ y ≤ 1073741824 ∧ Hid (Below w.heap.size w wr)) (fun _ _ i _ => nk - (intOf i).toNat)
  case atStart => exact ⟨0, 0, 0, Nat.zero_le _, rfl, rfl, rfl, rfl, by omega, by omega, by omega, by omega, HB⟩
  case round =>
    obtain ⟨j, x, y, hj, rfl, rfl, rfl, HE, x1, x2, y1, y2, HW⟩ := hrel
    clear HB
    by_cases hlt : j < nk
    · obtain ⟨t, ht⟩ := getX HL.out hlt
      obtain ⟨bb, off, rfl, hka⟩ := (HK.out.below HW.out).some (by have := HL.out; omega)
      obtain ⟨k', m', a', b', g', n', s', kk, sa', sc', ao', cap', rfl, ⟨e0, e1, e2, e3, e4, e5, e6, e7⟩, hv'⟩ := hka.kid ht
      have hmem := List.mem_of_getElem? ht
      have hgt : (ks.map ofN)[j]? = some (ofN (.mk k' m' a' b' g' n' s' kk)) := by rw [List.getElem?_map, ht]; rfl
      generalize s'.length = sl' at *
      generalize kk.length = nk' at *
      have W1 : Below w.heap.size wr (wr.alloc (.cells #[.int .i64 k', .int .i64 m', .int .i64 a', .int .i64 b', .bool g', .string n', .slice sa' sl' sc', .slice ao' nk' cap'] 25)) := (Below.refl _ wr).alloc HW.out.size _
      have C := HI.out _ _ (wr.alloc (.cells #[.int .i64 k', .int .i64 m', .int .i64 a', .int .i64 b', .bool g', .string n', .slice sa' sl' sc', .slice ao' nk' cap'] 25)) hmem ((hv'.keep W1).wide (by have := HW.out.size; simp; omega))
      have hok := of_ok (.mk k' m' a' b' g' n' s' kk)
      obtain ⟨p, hp⟩ : ∃ p, ofN (.mk k' m' a' b' g' n' s' kk) = p := ⟨_, rfl⟩
      rw [hp] at C hok hgt
      obtain ⟨p1, p2⟩ := p
      have hok' := hok
      obtain ⟨o1, o2, o3, o4⟩ := hok'
      simp only at C o1 o2 o3 o4
      have HC : Hid (Below w.heap.size w (wr.alloc (.cells #[.int .i64 k', .int .i64 m', .int .i64 a', .int .i64 b', .bool g', .string n', .slice sa' sl' sc', .slice ao' nk' cap'] 25))) := HW.out.trans W1
      have HN : Hid (((ks.map ofN).take (j + 1)).foldl plusA (0, 0) = (plusR x p1, plusR y p2)) := by
        unfold Hid; rw [fold_snoc hgt, HE.out, ← plusR_eq ⟨x1, x2, y1, y2⟩ hok]
      have hb := plusA_ok (x := (x, y)) (y := (p1, p2)) ⟨x1, x2, y1, y2⟩ hok
      rw [← plusR_eq ⟨x1, x2, y1, y2⟩ hok] at hb
      have P1 : Hid (∀ W, Calls Tryz.prog 90 #[.int .i64 x, .int .i64 p1] W fun e w' => e = .returned (.int .i64 (plusR x p1)) ∧ W = w') := fun W => (rplus_any x p1 W (by omega) x2 (by omega) o2).mono (by rintro e w' ⟨rfl, rfl⟩; exact ⟨rfl, rfl⟩)
      have P2 : Hid (∀ W, Calls Tryz.prog 90 #[.int .i64 y, .int .i64 p2] W fun e w' => e = .returned (.int .i64 (plusR y p2)) ∧ W = w') := fun W => (rplus_any y p2 W y1 y2 o3 o4).mono (by rintro e w' ⟨rfl, rfl⟩; exact ⟨rfl, rfl⟩)
      generalize plusR x p1 = X at *
      generalize plusR y p2 = Y at *
      obtain ⟨z1, z2, z3, z4⟩ := hb
      simp only at z1 z2 z3 z4
      clear HE HK HW hka hv' hmem W1 HI hp hgt hok ht
      go_wp2_with (first
        | (go_at_call_of 90 (Value.int IntKind.i64 p1); refine (P1.out _).mono ?_; rintro e w3 ⟨rfl, rfl⟩)
        | (go_at_call 90; refine (P2.out _).mono ?_; rintro e w3 ⟨rfl, rfl⟩)
        | (go_at_call 66; refine C.mono ?_; rintro e w2 ⟨rfl, d⟩; have HG : Hid (Below w.heap.size w w2) := HC.out.trans (below_less d (by have := HC.out.size; omega)); clear d))
      go_roundw
      case rel => exact ⟨j + 1, X, Y, by omega, rfl, rfl, by go_num, HN, z1, z2, z3, z4, HG⟩
      case measure => simp [intOf]; omega
    · have HF : Hid ((ks.map ofN).foldl plusA (0, 0) = (x, y)) := by
        unfold Hid; rw [← HE.out, List.take_of_length_le (by have := HL.out; rw [List.length_map]; omega)]
      clear HK HI
      go_wp2
      go_ret2
      exact ⟨by rw [HF.out]; rfl, HW.out⟩
end Go.Proofs.YtjbcapnpknbbaaaGreat.wid
end
