/- WidthTimes, walked. -/
import Derived.Test.YtjblccgkocknbaaWidOf
set_option linter.unusedVariables false
set_option linter.unusedSimpArgs false
namespace Go.Proofs.Ytjblccgkocknbaa.wid
open Go.RowKit
open Go.Proofs.Ytjblccgkocknbaa.nod
open Go.Proofs.Ytjblccgkocknbaa.rng (R RV ret_int ret_bool below_drewN info_parts own_below')

theorem rem101 (a : Int) : ∃ A : Int, (IntKind.u64.wrap a).tmod 101 = A ∧ 0 ≤ A ∧ A ≤ 100 := by
  have h0 : 0 ≤ IntKind.u64.wrap a := by simp only [IntKind.wrap, IntKind.signed, IntKind.bits]; first | omega | (simp; omega)
  have h1 := Int.tmod_nonneg 101 h0
  have h2 := Int.tmod_lt_of_pos (IntKind.u64.wrap a) (show (0 : Int) < 101 by omega)
  exact ⟨_, rfl, h1, by omega⟩
set_option maxRecDepth 10000 in
set_option maxHeartbeats 8000000 in
theorem times_walk (v : Value) (t : Nd) (x : Int) (w : World) (hv : NV w.heap.size w t v) :
    Calls Try.prog 7 #[v, .int .i64 x] w fun e w' => e = .returned (.bool true) ∧ Below w.heap.size w w' := by
  obtain ⟨k, m, a, b, g, n, st, ks, sa, sc, ao, cap, rfl, rfl, _⟩ := hv.open
  generalize st.length = sl at *
  generalize ks.length = nk at *
  have HB : Hid (Below w.heap.size w (w.alloc (.cells #[.int .i64 k, .int .i64 m, .int .i64 a, .int .i64 b, .bool g, .string n, .slice sa sl sc, .slice ao nk cap] 25))) := (Below.refl _ w).alloc (Nat.le_refl _) _
  have HX : Hid (Bk (w.alloc (.cells #[.int .i64 k, .int .i64 m, .int .i64 a, .int .i64 b, .bool g, .string n, .slice sa sl sc, .slice ao nk cap] 25)) w.heap.size #[.int .i64 k, .int .i64 m, .int .i64 a, .int .i64 b, .bool g, .string n, .slice sa sl sc, .slice ao nk cap] 25) := Bk.new w _ _
  have HZ : Hid (w.heap.size < (w.alloc (.cells #[.int .i64 k, .int .i64 m, .int .i64 a, .int .i64 b, .bool g, .string n, .slice sa sl sc, .slice ao nk cap] 25)).heap.size) := by unfold Hid; simp <;> omega
  have HV : Hid (∀ W, Below (w.alloc (.cells #[.int .i64 k, .int .i64 m, .int .i64 a, .int .i64 b, .bool g, .string n, .slice sa sl sc, .slice ao nk cap] 25)).heap.size (w.alloc (.cells #[.int .i64 k, .int .i64 m, .int .i64 a, .int .i64 b, .bool g, .string n, .slice sa sl sc, .slice ao nk cap] 25)) W → NV W.heap.size W (.mk k m a b g n st ks) (.agg #[.int .i64 k, .int .i64 m, .int .i64 a, .int .i64 b, .bool g, .string n, .slice sa sl sc, .slice ao nk cap])) := fun W hW => (hv.keep (HB.out.trans (below_less hW (by simp)))).wide (by have := HB.out.size; have := hW.size; omega)
  have D : Hid (Below (w.alloc (.cells #[.int .i64 k, .int .i64 m, .int .i64 a, .int .i64 b, .bool g, .string n, .slice sa sl sc, .slice ao nk cap] 25)).heap.size (w.alloc (.cells #[.int .i64 k, .int .i64 m, .int .i64 a, .int .i64 b, .bool g, .string n, .slice sa sl sc, .slice ao nk cap] 25)) (w.alloc (.cells #[.int .i64 k, .int .i64 m, .int .i64 a, .int .i64 b, .bool g, .string n, .slice sa sl sc, .slice ao nk cap] 25))) := Below.refl _ _
  have x0 := (HX.out.keep D.out HZ.out).cell 0 (u := .int .i64 k) rfl
  have x1 := (HX.out.keep D.out HZ.out).cell 1 (u := .int .i64 m) rfl
  have x2 := (HX.out.keep D.out HZ.out).cell 2 (u := .int .i64 a) rfl
  have x3 := (HX.out.keep D.out HZ.out).cell 3 (u := .int .i64 b) rfl
  have x4 := (HX.out.keep D.out HZ.out).cell 4 (u := .bool g) rfl
  have x5 := (HX.out.keep D.out HZ.out).cell 5 (u := .string n) rfl
  have x6 := (HX.out.keep D.out HZ.out).cell 6 (u := .slice sa sl sc) rfl
  have x7 := (HX.out.keep D.out HZ.out).cell 7 (u := .slice ao nk cap) rfl
  have CA : Hid (∀ W, Below (w.alloc (.cells #[.int .i64 k, .int .i64 m, .int .i64 a, .int .i64 b, .bool g, .string n, .slice sa sl sc, .slice ao nk cap] 25)).heap.size (w.alloc (.cells #[.int .i64 k, .int .i64 m, .int .i64 a, .int .i64 b, .bool g, .string n, .slice sa sl sc, .slice ao nk cap] 25)) W → Calls Try.prog 9 #[] W fun e w' => e = .returned (.bool true) ∧ Below (w.alloc (.cells #[.int .i64 k, .int .i64 m, .int .i64 a, .int .i64 b, .bool g, .string n, .slice sa sl sc, .slice ao nk cap] 25)).heap.size (w.alloc (.cells #[.int .i64 k, .int .i64 m, .int .i64 a, .int .i64 b, .bool g, .string n, .slice sa sl sc, .slice ao nk cap] 25)) w') := fun W hW => (awake_any W).mono (by rintro e w' ⟨rfl, d⟩; exact ⟨rfl, hW.trans (below_less d hW.size)⟩)
  obtain ⟨q, hq⟩ : ∃ q, (!(fewN (.mk k m a b g n st ks) 1000 300).2) = q := ⟨_, rfl⟩
  have CD : Hid (∀ W, Below (w.alloc (.cells #[.int .i64 k, .int .i64 m, .int .i64 a, .int .i64 b, .bool g, .string n, .slice sa sl sc, .slice ao nk cap] 25)).heap.size (w.alloc (.cells #[.int .i64 k, .int .i64 m, .int .i64 a, .int .i64 b, .bool g, .string n, .slice sa sl sc, .slice ao nk cap] 25)) W → Calls Try.prog 8 #[.agg #[.int .i64 k, .int .i64 m, .int .i64 a, .int .i64 b, .bool g, .string n, .slice sa sl sc, .slice ao nk cap], .int .i64 1000, .int .i64 300] W fun e w' => e = .returned (.bool q) ∧ Below (w.alloc (.cells #[.int .i64 k, .int .i64 m, .int .i64 a, .int .i64 b, .bool g, .string n, .slice sa sl sc, .slice ao nk cap] 25)).heap.size (w.alloc (.cells #[.int .i64 k, .int .i64 m, .int .i64 a, .int .i64 b, .bool g, .string n, .slice sa sl sc, .slice ao nk cap] 25)) w') := fun W hW => (hq ▸ deep_any (.mk k m a b g n st ks) _ 1000 300 W (HV.out W hW) (by omega) (by omega) (by omega) (by omega)).mono (by rintro e w' ⟨rfl, d⟩; exact ⟨rfl, hW.trans (below_less d hW.size)⟩)
  cases q with
  | true =>
    clear hv HV hq
    go_enter Try.func7, Try.ntmps7
    go_wp2_with (first
      | (go_at_call 8; refine (CD.out _ D.out).mono ?_; clear D x0 x1 x2 x3 x4 x5 x6 x7; rintro e w1 ⟨rfl, d⟩; have D : Hid (Below (w.alloc (.cells #[.int .i64 k, .int .i64 m, .int .i64 a, .int .i64 b, .bool g, .string n, .slice sa sl sc, .slice ao nk cap] 25)).heap.size (w.alloc (.cells #[.int .i64 k, .int .i64 m, .int .i64 a, .int .i64 b, .bool g, .string n, .slice sa sl sc, .slice ao nk cap] 25)) w1) := d; have x0 := (HX.out.keep d HZ.out).cell 0 (u := .int .i64 k) rfl; have x1 := (HX.out.keep d HZ.out).cell 1 (u := .int .i64 m) rfl; have x2 := (HX.out.keep d HZ.out).cell 2 (u := .int .i64 a) rfl; have x3 := (HX.out.keep d HZ.out).cell 3 (u := .int .i64 b) rfl; have x4 := (HX.out.keep d HZ.out).cell 4 (u := .bool g) rfl; have x5 := (HX.out.keep d HZ.out).cell 5 (u := .string n) rfl; have x6 := (HX.out.keep d HZ.out).cell 6 (u := .slice sa sl sc) rfl; have x7 := (HX.out.keep d HZ.out).cell 7 (u := .slice ao nk cap) rfl; clear d)
      | (go_at_call 9; refine (CA.out _ D.out).mono ?_; clear D x0 x1 x2 x3 x4 x5 x6 x7; rintro e w1 ⟨rfl, d⟩; have D : Hid (Below (w.alloc (.cells #[.int .i64 k, .int .i64 m, .int .i64 a, .int .i64 b, .bool g, .string n, .slice sa sl sc, .slice ao nk cap] 25)).heap.size (w.alloc (.cells #[.int .i64 k, .int .i64 m, .int .i64 a, .int .i64 b, .bool g, .string n, .slice sa sl sc, .slice ao nk cap] 25)) w1) := d; have x0 := (HX.out.keep d HZ.out).cell 0 (u := .int .i64 k) rfl; have x1 := (HX.out.keep d HZ.out).cell 1 (u := .int .i64 m) rfl; have x2 := (HX.out.keep d HZ.out).cell 2 (u := .int .i64 a) rfl; have x3 := (HX.out.keep d HZ.out).cell 3 (u := .int .i64 b) rfl; have x4 := (HX.out.keep d HZ.out).cell 4 (u := .bool g) rfl; have x5 := (HX.out.keep d HZ.out).cell 5 (u := .string n) rfl; have x6 := (HX.out.keep d HZ.out).cell 6 (u := .slice sa sl sc) rfl; have x7 := (HX.out.keep d HZ.out).cell 7 (u := .slice ao nk cap) rfl; clear d))
    go_ret
    exact ⟨rfl, HB.out.trans (below_less D.out (by simp; try omega))⟩
  | false =>
  have hsz : ((.mk k m a b g n st ks) : Nd).sz ≤ 1000 := by have := deep_facts (t := (.mk k m a b g n st ks)) (nodes := 1000) (depth := 300) (by simpa using hq); omega
  have hok := of_ok (.mk k m a b g n st ks)
  obtain ⟨r, hr⟩ : ∃ r, ofN (.mk k m a b g n st ks) = r := ⟨_, rfl⟩
  obtain ⟨r1, r2⟩ := r
  obtain ⟨A, hA, hA0, hA1⟩ := rem101 x
  have CO : Hid (∀ W, Below (w.alloc (.cells #[.int .i64 k, .int .i64 m, .int .i64 a, .int .i64 b, .bool g, .string n, .slice sa sl sc, .slice ao nk cap] 25)).heap.size (w.alloc (.cells #[.int .i64 k, .int .i64 m, .int .i64 a, .int .i64 b, .bool g, .string n, .slice sa sl sc, .slice ao nk cap] 25)) W → Calls Try.prog 10 #[.agg #[.int .i64 k, .int .i64 m, .int .i64 a, .int .i64 b, .bool g, .string n, .slice sa sl sc, .slice ao nk cap]] W fun e w' => e = .returned (.tuple #[.int .i64 r1, .int .i64 r2]) ∧ Below (w.alloc (.cells #[.int .i64 k, .int .i64 m, .int .i64 a, .int .i64 b, .bool g, .string n, .slice sa sl sc, .slice ao nk cap] 25)).heap.size (w.alloc (.cells #[.int .i64 k, .int .i64 m, .int .i64 a, .int .i64 b, .bool g, .string n, .slice sa sl sc, .slice ao nk cap] 25)) w') := fun W hW => (of_any (.mk k m a b g n st ks) _ W (HV.out W hW) (by omega)).mono (by rintro e w' ⟨rfl, d⟩; exact ⟨by rw [hr], hW.trans (below_less d hW.size)⟩)
  obtain ⟨z, hz⟩ : ∃ z, timesA (r1, r2) A A = z := ⟨_, rfl⟩
  obtain ⟨z1, z2⟩ := z
  have CT : Hid (∀ W, Below (w.alloc (.cells #[.int .i64 k, .int .i64 m, .int .i64 a, .int .i64 b, .bool g, .string n, .slice sa sl sc, .slice ao nk cap] 25)).heap.size (w.alloc (.cells #[.int .i64 k, .int .i64 m, .int .i64 a, .int .i64 b, .bool g, .string n, .slice sa sl sc, .slice ao nk cap] 25)) W → Calls Try.prog 10 #[.agg #[.int .i64 8, .int .i64 0, .int .i64 A, .int .i64 A, .bool false, .string ByteArray.empty, .slice none 0 0, .slice (some ⟨W.heap.size, 0, none⟩) 1 1]] (W.alloc (.cells #[.int .i64 k, .int .i64 m, .int .i64 a, .int .i64 b, .bool g, .string n, .slice sa sl sc, .slice ao nk cap] 25)) fun e w' => e = .returned (.tuple #[.int .i64 z1, .int .i64 z2]) ∧ Below (w.alloc (.cells #[.int .i64 k, .int .i64 m, .int .i64 a, .int .i64 b, .bool g, .string n, .slice sa sl sc, .slice ao nk cap] 25)).heap.size (w.alloc (.cells #[.int .i64 k, .int .i64 m, .int .i64 a, .int .i64 b, .bool g, .string n, .slice sa sl sc, .slice ao nk cap] 25)) w') := fun W hW => (of_any (.mk 8 0 A A false ByteArray.empty [] [(.mk k m a b g n st ks)]) _ (W.alloc (.cells #[.int .i64 k, .int .i64 m, .int .i64 a, .int .i64 b, .bool g, .string n, .slice sa sl sc, .slice ao nk cap] 25)) ((NV.shut (s := []) (ks := [(.mk k m a b g n st ks)]) (by unfold I64; omega) (by simp) ⟨.inl rfl, fun x e => (by cases e), by simp, by simp, fun _ => rfl⟩ ⟨by simp, by unfold maxLen; omega, fun e => (by cases e)⟩ (kv_one 25 (HV.out W hW) (Nat.le_refl _))).wide (by simp)) (by rw [Nd.sz, szL, szL]; omega)).mono (by rintro e w' ⟨rfl, d⟩; exact ⟨by rw [rep_one, hr, hz], (hW.alloc hW.size _).trans (below_less d (Nat.le_trans hW.size (by simp)))⟩)
  rw [hr] at hok
  obtain ⟨p1, p2, p3, p4⟩ := hok
  simp only at p1 p2 p3 p4
  simp only [timesA, Prod.mk.injEq] at hz
  obtain ⟨hz1, hz2⟩ := hz
  have m1 := mul_bounds p1 p2 hA0 (by omega)
  have hz1' : min (r1 * A) 1073741824 = z1 := by rw [← hz1]; unfold prod; rw [show min (max A 0) 1073741824 = A by omega]
  obtain ⟨M, hM⟩ : ∃ M, r1 * A = M := ⟨_, rfl⟩
  rw [hM] at m1 hz1'
  obtain ⟨m1, m2⟩ := m1
  have e1 : (if 1073741824 < M then 1073741824 else M) = z1 := by rw [← hz1']; split <;> omega
  clear hv HV hq hr hsz hz1 hz1'
  by_cases c1 : r2 < 0
  · have f1 : decide (r2 < 0) = true := decide_eq_true c1
    have hr2 : r2 = -1 := by omega
    subst hr2
    by_cases c2 : 0 < A
    · have f2 : decide (0 < A) = true := decide_eq_true c2
      have hzz : z2 = -1 := by rw [← hz2, if_neg (by omega), if_pos (by omega)]
      subst hzz
      clear hz2
      go_enter Try.func7, Try.ntmps7
      go_wp2_with (first
        | (go_at_call 8; refine (CD.out _ D.out).mono ?_; clear D x0 x1 x2 x3 x4 x5 x6 x7; rintro e w1 ⟨rfl, d⟩; have D : Hid (Below (w.alloc (.cells #[.int .i64 k, .int .i64 m, .int .i64 a, .int .i64 b, .bool g, .string n, .slice sa sl sc, .slice ao nk cap] 25)).heap.size (w.alloc (.cells #[.int .i64 k, .int .i64 m, .int .i64 a, .int .i64 b, .bool g, .string n, .slice sa sl sc, .slice ao nk cap] 25)) w1) := d; have x0 := (HX.out.keep d HZ.out).cell 0 (u := .int .i64 k) rfl; have x1 := (HX.out.keep d HZ.out).cell 1 (u := .int .i64 m) rfl; have x2 := (HX.out.keep d HZ.out).cell 2 (u := .int .i64 a) rfl; have x3 := (HX.out.keep d HZ.out).cell 3 (u := .int .i64 b) rfl; have x4 := (HX.out.keep d HZ.out).cell 4 (u := .bool g) rfl; have x5 := (HX.out.keep d HZ.out).cell 5 (u := .string n) rfl; have x6 := (HX.out.keep d HZ.out).cell 6 (u := .slice sa sl sc) rfl; have x7 := (HX.out.keep d HZ.out).cell 7 (u := .slice ao nk cap) rfl; clear d)
        | (go_at_call_of 10 (Value.slice ao nk cap); refine (CO.out _ D.out).mono ?_; clear D x0 x1 x2 x3 x4 x5 x6 x7; rintro e w1 ⟨rfl, d⟩; have D : Hid (Below (w.alloc (.cells #[.int .i64 k, .int .i64 m, .int .i64 a, .int .i64 b, .bool g, .string n, .slice sa sl sc, .slice ao nk cap] 25)).heap.size (w.alloc (.cells #[.int .i64 k, .int .i64 m, .int .i64 a, .int .i64 b, .bool g, .string n, .slice sa sl sc, .slice ao nk cap] 25)) w1) := d; have x0 := (HX.out.keep d HZ.out).cell 0 (u := .int .i64 k) rfl; have x1 := (HX.out.keep d HZ.out).cell 1 (u := .int .i64 m) rfl; have x2 := (HX.out.keep d HZ.out).cell 2 (u := .int .i64 a) rfl; have x3 := (HX.out.keep d HZ.out).cell 3 (u := .int .i64 b) rfl; have x4 := (HX.out.keep d HZ.out).cell 4 (u := .bool g) rfl; have x5 := (HX.out.keep d HZ.out).cell 5 (u := .string n) rfl; have x6 := (HX.out.keep d HZ.out).cell 6 (u := .slice sa sl sc) rfl; have x7 := (HX.out.keep d HZ.out).cell 7 (u := .slice ao nk cap) rfl; clear d)
        | (go_at_call 10; refine (CT.out _ D.out).mono ?_; clear D x0 x1 x2 x3 x4 x5 x6 x7; rintro e w1 ⟨rfl, d⟩; have D : Hid (Below (w.alloc (.cells #[.int .i64 k, .int .i64 m, .int .i64 a, .int .i64 b, .bool g, .string n, .slice sa sl sc, .slice ao nk cap] 25)).heap.size (w.alloc (.cells #[.int .i64 k, .int .i64 m, .int .i64 a, .int .i64 b, .bool g, .string n, .slice sa sl sc, .slice ao nk cap] 25)) w1) := d; have x0 := (HX.out.keep d HZ.out).cell 0 (u := .int .i64 k) rfl; have x1 := (HX.out.keep d HZ.out).cell 1 (u := .int .i64 m) rfl; have x2 := (HX.out.keep d HZ.out).cell 2 (u := .int .i64 a) rfl; have x3 := (HX.out.keep d HZ.out).cell 3 (u := .int .i64 b) rfl; have x4 := (HX.out.keep d HZ.out).cell 4 (u := .bool g) rfl; have x5 := (HX.out.keep d HZ.out).cell 5 (u := .string n) rfl; have x6 := (HX.out.keep d HZ.out).cell 6 (u := .slice sa sl sc) rfl; have x7 := (HX.out.keep d HZ.out).cell 7 (u := .slice ao nk cap) rfl; clear d)
        | (go_at_call 9; refine (CA.out _ D.out).mono ?_; clear D x0 x1 x2 x3 x4 x5 x6 x7; rintro e w1 ⟨rfl, d⟩; have D : Hid (Below (w.alloc (.cells #[.int .i64 k, .int .i64 m, .int .i64 a, .int .i64 b, .bool g, .string n, .slice sa sl sc, .slice ao nk cap] 25)).heap.size (w.alloc (.cells #[.int .i64 k, .int .i64 m, .int .i64 a, .int .i64 b, .bool g, .string n, .slice sa sl sc, .slice ao nk cap] 25)) w1) := d; have x0 := (HX.out.keep d HZ.out).cell 0 (u := .int .i64 k) rfl; have x1 := (HX.out.keep d HZ.out).cell 1 (u := .int .i64 m) rfl; have x2 := (HX.out.keep d HZ.out).cell 2 (u := .int .i64 a) rfl; have x3 := (HX.out.keep d HZ.out).cell 3 (u := .int .i64 b) rfl; have x4 := (HX.out.keep d HZ.out).cell 4 (u := .bool g) rfl; have x5 := (HX.out.keep d HZ.out).cell 5 (u := .string n) rfl; have x6 := (HX.out.keep d HZ.out).cell 6 (u := .slice sa sl sc) rfl; have x7 := (HX.out.keep d HZ.out).cell 7 (u := .slice ao nk cap) rfl; clear d))
      go_ret
      exact ⟨rfl, HB.out.trans (below_less D.out (by simp; try omega))⟩
    · have hA2 : A = 0 := by omega
      subst hA2
      have hzz : z2 = 0 := by rw [← hz2, if_pos (by simp)]
      subst hzz
      clear hz2
      go_enter Try.func7, Try.ntmps7
      go_wp2_with (first
        | (go_at_call 8; refine (CD.out _ D.out).mono ?_; clear D x0 x1 x2 x3 x4 x5 x6 x7; rintro e w1 ⟨rfl, d⟩; have D : Hid (Below (w.alloc (.cells #[.int .i64 k, .int .i64 m, .int .i64 a, .int .i64 b, .bool g, .string n, .slice sa sl sc, .slice ao nk cap] 25)).heap.size (w.alloc (.cells #[.int .i64 k, .int .i64 m, .int .i64 a, .int .i64 b, .bool g, .string n, .slice sa sl sc, .slice ao nk cap] 25)) w1) := d; have x0 := (HX.out.keep d HZ.out).cell 0 (u := .int .i64 k) rfl; have x1 := (HX.out.keep d HZ.out).cell 1 (u := .int .i64 m) rfl; have x2 := (HX.out.keep d HZ.out).cell 2 (u := .int .i64 a) rfl; have x3 := (HX.out.keep d HZ.out).cell 3 (u := .int .i64 b) rfl; have x4 := (HX.out.keep d HZ.out).cell 4 (u := .bool g) rfl; have x5 := (HX.out.keep d HZ.out).cell 5 (u := .string n) rfl; have x6 := (HX.out.keep d HZ.out).cell 6 (u := .slice sa sl sc) rfl; have x7 := (HX.out.keep d HZ.out).cell 7 (u := .slice ao nk cap) rfl; clear d)
        | (go_at_call_of 10 (Value.slice ao nk cap); refine (CO.out _ D.out).mono ?_; clear D x0 x1 x2 x3 x4 x5 x6 x7; rintro e w1 ⟨rfl, d⟩; have D : Hid (Below (w.alloc (.cells #[.int .i64 k, .int .i64 m, .int .i64 a, .int .i64 b, .bool g, .string n, .slice sa sl sc, .slice ao nk cap] 25)).heap.size (w.alloc (.cells #[.int .i64 k, .int .i64 m, .int .i64 a, .int .i64 b, .bool g, .string n, .slice sa sl sc, .slice ao nk cap] 25)) w1) := d; have x0 := (HX.out.keep d HZ.out).cell 0 (u := .int .i64 k) rfl; have x1 := (HX.out.keep d HZ.out).cell 1 (u := .int .i64 m) rfl; have x2 := (HX.out.keep d HZ.out).cell 2 (u := .int .i64 a) rfl; have x3 := (HX.out.keep d HZ.out).cell 3 (u := .int .i64 b) rfl; have x4 := (HX.out.keep d HZ.out).cell 4 (u := .bool g) rfl; have x5 := (HX.out.keep d HZ.out).cell 5 (u := .string n) rfl; have x6 := (HX.out.keep d HZ.out).cell 6 (u := .slice sa sl sc) rfl; have x7 := (HX.out.keep d HZ.out).cell 7 (u := .slice ao nk cap) rfl; clear d)
        | (go_at_call 10; refine (CT.out _ D.out).mono ?_; clear D x0 x1 x2 x3 x4 x5 x6 x7; rintro e w1 ⟨rfl, d⟩; have D : Hid (Below (w.alloc (.cells #[.int .i64 k, .int .i64 m, .int .i64 a, .int .i64 b, .bool g, .string n, .slice sa sl sc, .slice ao nk cap] 25)).heap.size (w.alloc (.cells #[.int .i64 k, .int .i64 m, .int .i64 a, .int .i64 b, .bool g, .string n, .slice sa sl sc, .slice ao nk cap] 25)) w1) := d; have x0 := (HX.out.keep d HZ.out).cell 0 (u := .int .i64 k) rfl; have x1 := (HX.out.keep d HZ.out).cell 1 (u := .int .i64 m) rfl; have x2 := (HX.out.keep d HZ.out).cell 2 (u := .int .i64 a) rfl; have x3 := (HX.out.keep d HZ.out).cell 3 (u := .int .i64 b) rfl; have x4 := (HX.out.keep d HZ.out).cell 4 (u := .bool g) rfl; have x5 := (HX.out.keep d HZ.out).cell 5 (u := .string n) rfl; have x6 := (HX.out.keep d HZ.out).cell 6 (u := .slice sa sl sc) rfl; have x7 := (HX.out.keep d HZ.out).cell 7 (u := .slice ao nk cap) rfl; clear d)
        | (go_at_call 9; refine (CA.out _ D.out).mono ?_; clear D x0 x1 x2 x3 x4 x5 x6 x7; rintro e w1 ⟨rfl, d⟩; have D : Hid (Below (w.alloc (.cells #[.int .i64 k, .int .i64 m, .int .i64 a, .int .i64 b, .bool g, .string n, .slice sa sl sc, .slice ao nk cap] 25)).heap.size (w.alloc (.cells #[.int .i64 k, .int .i64 m, .int .i64 a, .int .i64 b, .bool g, .string n, .slice sa sl sc, .slice ao nk cap] 25)) w1) := d; have x0 := (HX.out.keep d HZ.out).cell 0 (u := .int .i64 k) rfl; have x1 := (HX.out.keep d HZ.out).cell 1 (u := .int .i64 m) rfl; have x2 := (HX.out.keep d HZ.out).cell 2 (u := .int .i64 a) rfl; have x3 := (HX.out.keep d HZ.out).cell 3 (u := .int .i64 b) rfl; have x4 := (HX.out.keep d HZ.out).cell 4 (u := .bool g) rfl; have x5 := (HX.out.keep d HZ.out).cell 5 (u := .string n) rfl; have x6 := (HX.out.keep d HZ.out).cell 6 (u := .slice sa sl sc) rfl; have x7 := (HX.out.keep d HZ.out).cell 7 (u := .slice ao nk cap) rfl; clear d))
      go_ret
      exact ⟨rfl, HB.out.trans (below_less D.out (by simp; try omega))⟩
  · have f1 : decide (r2 < 0) = false := decide_eq_false c1
    have m3 := mul_bounds (show 0 ≤ r2 by omega) p4 hA0 (by omega)
    obtain ⟨K, hK⟩ : ∃ K, r2 * A = K := ⟨_, rfl⟩
    rw [hK] at m3
    obtain ⟨m3, m4⟩ := m3
    have e2 : (if 1073741824 < K then 1073741824 else K) = z2 := by
      rw [← hz2]
      by_cases c3 : r2 = 0 ∨ A = 0 ∨ A < -1
      · rw [if_pos c3]
        have : K = 0 := by
          rw [← hK]
          rcases c3 with c | c | c
          · rw [c, Int.zero_mul]
          · rw [c, Int.mul_zero]
          · omega
        rw [this]; rfl
      · rw [if_neg c3, if_neg (show ¬ (r2 = -1 ∨ A = -1) by omega)]
        unfold prod
        rw [show min (max A 0) 1073741824 = A by omega, hK]
        split <;> omega
    have e3 : (if r2 < 0 then 0 else r2) = r2 := if_neg c1
    clear hz2
    go_enter Try.func7, Try.ntmps7
    go_wp2_with (first
      | (go_at_call 8; refine (CD.out _ D.out).mono ?_; clear D x0 x1 x2 x3 x4 x5 x6 x7; rintro e w1 ⟨rfl, d⟩; have D : Hid (Below (w.alloc (.cells #[.int .i64 k, .int .i64 m, .int .i64 a, .int .i64 b, .bool g, .string n, .slice sa sl sc, .slice ao nk cap] 25)).heap.size (w.alloc (.cells #[.int .i64 k, .int .i64 m, .int .i64 a, .int .i64 b, .bool g, .string n, .slice sa sl sc, .slice ao nk cap] 25)) w1) := d; have x0 := (HX.out.keep d HZ.out).cell 0 (u := .int .i64 k) rfl; have x1 := (HX.out.keep d HZ.out).cell 1 (u := .int .i64 m) rfl; have x2 := (HX.out.keep d HZ.out).cell 2 (u := .int .i64 a) rfl; have x3 := (HX.out.keep d HZ.out).cell 3 (u := .int .i64 b) rfl; have x4 := (HX.out.keep d HZ.out).cell 4 (u := .bool g) rfl; have x5 := (HX.out.keep d HZ.out).cell 5 (u := .string n) rfl; have x6 := (HX.out.keep d HZ.out).cell 6 (u := .slice sa sl sc) rfl; have x7 := (HX.out.keep d HZ.out).cell 7 (u := .slice ao nk cap) rfl; clear d)
      | (go_at_call_of 10 (Value.slice ao nk cap); refine (CO.out _ D.out).mono ?_; clear D x0 x1 x2 x3 x4 x5 x6 x7; rintro e w1 ⟨rfl, d⟩; have D : Hid (Below (w.alloc (.cells #[.int .i64 k, .int .i64 m, .int .i64 a, .int .i64 b, .bool g, .string n, .slice sa sl sc, .slice ao nk cap] 25)).heap.size (w.alloc (.cells #[.int .i64 k, .int .i64 m, .int .i64 a, .int .i64 b, .bool g, .string n, .slice sa sl sc, .slice ao nk cap] 25)) w1) := d; have x0 := (HX.out.keep d HZ.out).cell 0 (u := .int .i64 k) rfl; have x1 := (HX.out.keep d HZ.out).cell 1 (u := .int .i64 m) rfl; have x2 := (HX.out.keep d HZ.out).cell 2 (u := .int .i64 a) rfl; have x3 := (HX.out.keep d HZ.out).cell 3 (u := .int .i64 b) rfl; have x4 := (HX.out.keep d HZ.out).cell 4 (u := .bool g) rfl; have x5 := (HX.out.keep d HZ.out).cell 5 (u := .string n) rfl; have x6 := (HX.out.keep d HZ.out).cell 6 (u := .slice sa sl sc) rfl; have x7 := (HX.out.keep d HZ.out).cell 7 (u := .slice ao nk cap) rfl; clear d)
      | (go_at_call 10; refine (CT.out _ D.out).mono ?_; clear D x0 x1 x2 x3 x4 x5 x6 x7; rintro e w1 ⟨rfl, d⟩; have D : Hid (Below (w.alloc (.cells #[.int .i64 k, .int .i64 m, .int .i64 a, .int .i64 b, .bool g, .string n, .slice sa sl sc, .slice ao nk cap] 25)).heap.size (w.alloc (.cells #[.int .i64 k, .int .i64 m, .int .i64 a, .int .i64 b, .bool g, .string n, .slice sa sl sc, .slice ao nk cap] 25)) w1) := d; have x0 := (HX.out.keep d HZ.out).cell 0 (u := .int .i64 k) rfl; have x1 := (HX.out.keep d HZ.out).cell 1 (u := .int .i64 m) rfl; have x2 := (HX.out.keep d HZ.out).cell 2 (u := .int .i64 a) rfl; have x3 := (HX.out.keep d HZ.out).cell 3 (u := .int .i64 b) rfl; have x4 := (HX.out.keep d HZ.out).cell 4 (u := .bool g) rfl; have x5 := (HX.out.keep d HZ.out).cell 5 (u := .string n) rfl; have x6 := (HX.out.keep d HZ.out).cell 6 (u := .slice sa sl sc) rfl; have x7 := (HX.out.keep d HZ.out).cell 7 (u := .slice ao nk cap) rfl; clear d)
      | (go_at_call 9; refine (CA.out _ D.out).mono ?_; clear D x0 x1 x2 x3 x4 x5 x6 x7; rintro e w1 ⟨rfl, d⟩; have D : Hid (Below (w.alloc (.cells #[.int .i64 k, .int .i64 m, .int .i64 a, .int .i64 b, .bool g, .string n, .slice sa sl sc, .slice ao nk cap] 25)).heap.size (w.alloc (.cells #[.int .i64 k, .int .i64 m, .int .i64 a, .int .i64 b, .bool g, .string n, .slice sa sl sc, .slice ao nk cap] 25)) w1) := d; have x0 := (HX.out.keep d HZ.out).cell 0 (u := .int .i64 k) rfl; have x1 := (HX.out.keep d HZ.out).cell 1 (u := .int .i64 m) rfl; have x2 := (HX.out.keep d HZ.out).cell 2 (u := .int .i64 a) rfl; have x3 := (HX.out.keep d HZ.out).cell 3 (u := .int .i64 b) rfl; have x4 := (HX.out.keep d HZ.out).cell 4 (u := .bool g) rfl; have x5 := (HX.out.keep d HZ.out).cell 5 (u := .string n) rfl; have x6 := (HX.out.keep d HZ.out).cell 6 (u := .slice sa sl sc) rfl; have x7 := (HX.out.keep d HZ.out).cell 7 (u := .slice ao nk cap) rfl; clear d))
    go_ret
    exact ⟨rfl, HB.out.trans (below_less D.out (by simp; try omega))⟩
end Go.Proofs.Ytjblccgkocknbaa.wid
