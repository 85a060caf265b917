/- Texts that the proof leans on, one behind the other. -/
import Derived.Test.YtlgkfnecahgedaaGreatDoorBdTok12

section
/- The document's repetitions by numbers: two numbers. -/
set_option linter.unusedVariables false
set_option linter.unusedSimpArgs false
namespace Go.Proofs.YtlgkfnecahgedaaGreatDoor.tok
open Go.RowKit
open lin (BA Turns)

set_option maxHeartbeats 4000000 in
set_option maxRecDepth 100000 in
theorem rc_comma_end (rb tb : Nat) (ao : Option Addr) (n cap : Nat) (f : Nat → Int) (a k : Nat) (c p : Int) (st : Nat) (w : World) (h : RT w rb tb ao n cap f a k c p ⟨6, 0, 0, 0, [], false, st, 0⟩) (hst : noneC f st = 150) (hl : a < n) (D : Nat) (V : Int) (hD : cntD digitB f n 3 (a + 1) = D) (hV : numV f n 3 (a + 1) = V) (hV0 : 0 ≤ V) (hq : hasB f n (a + 1 + D) [44] = true) (E : Nat) (B : Int) (hE : cntD digitB f n 3 (a + 1 + D + 1) = E) (hB : numV f n 3 (a + 1 + D + 1) = B) (hz : n ≤ a + 1 + D + 1 + E) :
    Calls Tryz.prog 85 #[.pointer (some ⟨rb, 0, none⟩), .pointer (some ⟨tb, 0, none⟩)] w (REc w rb tb ao n cap f k c p st (.no 130 n)) := by
  have hf := h.rs.ff
  have hv := numV_neg f n 3 (a + 1) hf (by decide)
  have hd := (cntD_le digitB f n 3 (a + 1)).2 hl
  rw [hD] at hd
  rw [hV] at hv
  obtain ⟨-, hv1, hv2⟩ := hv
  have KD : Hid (cntD digitB f n 3 (a + 1) = D) := hD
  have KV : Hid (numV f n 3 (a + 1) = V) := hV
  clear hD hV
  have hcm1 : a + 1 + D + 1 ≤ n := by
    have := hq
    simp [hasB, at_] at this
    omega
  have hw2 := numV_neg f n 3 (a + 1 + D + 1) hf (by decide)
  have hd2 := (cntD_le digitB f n 3 (a + 1 + D + 1)).2 hcm1
  rw [hE] at hd2
  rw [hB] at hw2
  obtain ⟨-, hw3, hw4⟩ := hw2
  have KE : Hid (cntD digitB f n 3 (a + 1 + D + 1) = E) := hE
  have KB : Hid (numV f n 3 (a + 1 + D + 1) = B) := hB
  clear hE hB
  have KQ : Hid (hasB f n (a + 1 + D) [44] = true) := hq
  clear hq
  clear hf
  have S0 := h
  have U0 : T2 rb tb w w := lin.Turns.refl _ w
  have hne : ¬ tb = rb := h.ne
  have hne' : ¬ rb = tb := fun e => h.ne e.symm
  have hn := h.rs.nn
  have ha := h.rs.aa
  have hcc := h.rs.cc
  have hcm := h.rs.cm
  clear h
  obtain ⟨⟨c0, c1, c2, z1, z2⟩, ⟨k0, k1, k2, k3, k4, k5, k6, k7⟩, ⟨f0, f1, f2, f3, f4, f5, f6, f7⟩⟩ := S0.cells
  go_enter Tryz.func85, Tryz.ntmps85
  have S1 := S0.put1 (x := ((a : Nat) : Int) + 1) (a' := a + 1) (by omega) (by omega)
  have U1 := T2.at U0 1 (.int .i64 (((a : Nat) : Int) + 1))
  clear S0 U0
  have C := number_t S1 U1 3 (by decide)
  go_wp2_with fail
  refine C.mono ?_
  rintro e w2 ⟨rfl, S2, U2⟩
  clear C S1 U1
  clear c0 c1 c2 z1 z2 k0 k1 k2 k3 k4 k5 k6 k7 f0 f1 f2 f3 f4 f5 f6 f7
  obtain ⟨⟨c0, c1, c2, z1, z2⟩, ⟨k0, k1, k2, k3, k4, k5, k6, k7⟩, ⟨f0, f1, f2, f3, f4, f5, f6, f7⟩⟩ := S2.cells
  rw [KD.out] at S2
  rw [KV.out]
  clear c0 c1 c2 z1 z2 k0 k1 k2 k3 k4 k5 k6 k7 f0 f1 f2 f3 f4 f5 f6 f7
  obtain ⟨⟨c0, c1, c2, z1, z2⟩, ⟨k0, k1, k2, k3, k4, k5, k6, k7⟩, ⟨f0, f1, f2, f3, f4, f5, f6, f7⟩⟩ := S2.cells
  have S3 := S2.t2 V
  have U3 := T2.put U2 2 (.int .i64 V)
  clear S2 U2
  have S4 := S3.t3 V
  have U4 := T2.put U3 3 (.int .i64 V)
  clear S3 U3
  have C := has_t S4 U4 [44] (by decide) (by decide)
  rw [KQ.out] at C
  go_wp2_with fail
  refine C.mono ?_
  rintro e w5 ⟨rfl, S5, U5⟩
  clear C S4 U4
  clear c0 c1 c2 z1 z2 k0 k1 k2 k3 k4 k5 k6 k7 f0 f1 f2 f3 f4 f5 f6 f7
  obtain ⟨⟨c0, c1, c2, z1, z2⟩, ⟨k0, k1, k2, k3, k4, k5, k6, k7⟩, ⟨f0, f1, f2, f3, f4, f5, f6, f7⟩⟩ := S5.cells
  have S6 := S5.put1 (x := ((a + 1 + D : Nat) : Int) + 1) (a' := a + 1 + D + 1) (by omega) (by omega)
  have U6 := T2.at U5 1 (.int .i64 (((a + 1 + D : Nat) : Int) + 1))
  clear S5 U5
  have C := number_t S6 U6 3 (by decide)
  go_wp2_with fail
  refine C.mono ?_
  rintro e w7 ⟨rfl, S7, U7⟩
  clear C S6 U6
  clear c0 c1 c2 z1 z2 k0 k1 k2 k3 k4 k5 k6 k7 f0 f1 f2 f3 f4 f5 f6 f7
  obtain ⟨⟨c0, c1, c2, z1, z2⟩, ⟨k0, k1, k2, k3, k4, k5, k6, k7⟩, ⟨f0, f1, f2, f3, f4, f5, f6, f7⟩⟩ := S7.cells
  rw [KE.out] at S7
  rw [KB.out]
  clear c0 c1 c2 z1 z2 k0 k1 k2 k3 k4 k5 k6 k7 f0 f1 f2 f3 f4 f5 f6 f7
  obtain ⟨⟨c0, c1, c2, z1, z2⟩, ⟨k0, k1, k2, k3, k4, k5, k6, k7⟩, ⟨f0, f1, f2, f3, f4, f5, f6, f7⟩⟩ := S7.cells
  have S8 := S7.t3 B
  have U8 := T2.put U7 3 (.int .i64 B)
  clear S7 U7
  have hz2 : n - (a + 1 + D + 1 + E) = 0 := by omega
  have C := rest_t S8 U8
  go_wp2_with fail
  refine C.mono ?_
  rintro e w9 ⟨rfl, S9, U9⟩
  clear C S8 U8
  clear c0 c1 c2 z1 z2 k0 k1 k2 k3 k4 k5 k6 k7 f0 f1 f2 f3 f4 f5 f6 f7
  obtain ⟨⟨c0, c1, c2, z1, z2⟩, ⟨k0, k1, k2, k3, k4, k5, k6, k7⟩, ⟨f0, f1, f2, f3, f4, f5, f6, f7⟩⟩ := S9.cells
  rw [hz2]
  have C := fail_t S9 U9 130 n
  go_wp2_with fail
  refine C.mono ?_
  rintro e w9 ⟨rfl, S9, U9⟩
  clear C
  go_wp2
  go_ret
  exact ⟨rfl, ⟨_, _, S9⟩, U9⟩
set_option maxHeartbeats 4000000 in
set_option maxRecDepth 100000 in
theorem rc_comma_bad (rb tb : Nat) (ao : Option Addr) (n cap : Nat) (f : Nat → Int) (a k : Nat) (c p : Int) (st : Nat) (w : World) (h : RT w rb tb ao n cap f a k c p ⟨6, 0, 0, 0, [], false, st, 0⟩) (hst : noneC f st = 150) (hl : a < n) (D : Nat) (V : Int) (hD : cntD digitB f n 3 (a + 1) = D) (hV : numV f n 3 (a + 1) = V) (hV0 : 0 ≤ V) (hq : hasB f n (a + 1 + D) [44] = true) (E : Nat) (B : Int) (hE : cntD digitB f n 3 (a + 1 + D + 1) = E) (hB : numV f n 3 (a + 1 + D + 1) = B) (hz : ¬ n ≤ a + 1 + D + 1 + E) (hy : ¬ f (a + 1 + D + 1 + E) = 125) :
    Calls Tryz.prog 85 #[.pointer (some ⟨rb, 0, none⟩), .pointer (some ⟨tb, 0, none⟩)] w (REc w rb tb ao n cap f k c p st (.no 150 st)) := by
  have hf := h.rs.ff
  have hv := numV_neg f n 3 (a + 1) hf (by decide)
  have hd := (cntD_le digitB f n 3 (a + 1)).2 hl
  rw [hD] at hd
  rw [hV] at hv
  obtain ⟨-, hv1, hv2⟩ := hv
  have KD : Hid (cntD digitB f n 3 (a + 1) = D) := hD
  have KV : Hid (numV f n 3 (a + 1) = V) := hV
  clear hD hV
  have hcm1 : a + 1 + D + 1 ≤ n := by
    have := hq
    simp [hasB, at_] at this
    omega
  have hw2 := numV_neg f n 3 (a + 1 + D + 1) hf (by decide)
  have hd2 := (cntD_le digitB f n 3 (a + 1 + D + 1)).2 hcm1
  rw [hE] at hd2
  rw [hB] at hw2
  obtain ⟨-, hw3, hw4⟩ := hw2
  have KE : Hid (cntD digitB f n 3 (a + 1 + D + 1) = E) := hE
  have KB : Hid (numV f n 3 (a + 1 + D + 1) = B) := hB
  clear hE hB
  have KQ : Hid (hasB f n (a + 1 + D) [44] = true) := hq
  clear hq
  have KY : Hid (¬ f (a + 1 + D + 1 + E) = 125) := hy
  clear hy
  clear hf
  have S0 := h
  have U0 : T2 rb tb w w := lin.Turns.refl _ w
  have hne : ¬ tb = rb := h.ne
  have hne' : ¬ rb = tb := fun e => h.ne e.symm
  have hn := h.rs.nn
  have ha := h.rs.aa
  have hcc := h.rs.cc
  have hcm := h.rs.cm
  clear h
  obtain ⟨⟨c0, c1, c2, z1, z2⟩, ⟨k0, k1, k2, k3, k4, k5, k6, k7⟩, ⟨f0, f1, f2, f3, f4, f5, f6, f7⟩⟩ := S0.cells
  go_enter Tryz.func85, Tryz.ntmps85
  have S1 := S0.put1 (x := ((a : Nat) : Int) + 1) (a' := a + 1) (by omega) (by omega)
  have U1 := T2.at U0 1 (.int .i64 (((a : Nat) : Int) + 1))
  clear S0 U0
  have C := number_t S1 U1 3 (by decide)
  go_wp2_with fail
  refine C.mono ?_
  rintro e w2 ⟨rfl, S2, U2⟩
  clear C S1 U1
  clear c0 c1 c2 z1 z2 k0 k1 k2 k3 k4 k5 k6 k7 f0 f1 f2 f3 f4 f5 f6 f7
  obtain ⟨⟨c0, c1, c2, z1, z2⟩, ⟨k0, k1, k2, k3, k4, k5, k6, k7⟩, ⟨f0, f1, f2, f3, f4, f5, f6, f7⟩⟩ := S2.cells
  rw [KD.out] at S2
  rw [KV.out]
  clear c0 c1 c2 z1 z2 k0 k1 k2 k3 k4 k5 k6 k7 f0 f1 f2 f3 f4 f5 f6 f7
  obtain ⟨⟨c0, c1, c2, z1, z2⟩, ⟨k0, k1, k2, k3, k4, k5, k6, k7⟩, ⟨f0, f1, f2, f3, f4, f5, f6, f7⟩⟩ := S2.cells
  have S3 := S2.t2 V
  have U3 := T2.put U2 2 (.int .i64 V)
  clear S2 U2
  have S4 := S3.t3 V
  have U4 := T2.put U3 3 (.int .i64 V)
  clear S3 U3
  have C := has_t S4 U4 [44] (by decide) (by decide)
  rw [KQ.out] at C
  go_wp2_with fail
  refine C.mono ?_
  rintro e w5 ⟨rfl, S5, U5⟩
  clear C S4 U4
  clear c0 c1 c2 z1 z2 k0 k1 k2 k3 k4 k5 k6 k7 f0 f1 f2 f3 f4 f5 f6 f7
  obtain ⟨⟨c0, c1, c2, z1, z2⟩, ⟨k0, k1, k2, k3, k4, k5, k6, k7⟩, ⟨f0, f1, f2, f3, f4, f5, f6, f7⟩⟩ := S5.cells
  have S6 := S5.put1 (x := ((a + 1 + D : Nat) : Int) + 1) (a' := a + 1 + D + 1) (by omega) (by omega)
  have U6 := T2.at U5 1 (.int .i64 (((a + 1 + D : Nat) : Int) + 1))
  clear S5 U5
  have C := number_t S6 U6 3 (by decide)
  go_wp2_with fail
  refine C.mono ?_
  rintro e w7 ⟨rfl, S7, U7⟩
  clear C S6 U6
  clear c0 c1 c2 z1 z2 k0 k1 k2 k3 k4 k5 k6 k7 f0 f1 f2 f3 f4 f5 f6 f7
  obtain ⟨⟨c0, c1, c2, z1, z2⟩, ⟨k0, k1, k2, k3, k4, k5, k6, k7⟩, ⟨f0, f1, f2, f3, f4, f5, f6, f7⟩⟩ := S7.cells
  rw [KE.out] at S7
  rw [KB.out]
  clear c0 c1 c2 z1 z2 k0 k1 k2 k3 k4 k5 k6 k7 f0 f1 f2 f3 f4 f5 f6 f7
  obtain ⟨⟨c0, c1, c2, z1, z2⟩, ⟨k0, k1, k2, k3, k4, k5, k6, k7⟩, ⟨f0, f1, f2, f3, f4, f5, f6, f7⟩⟩ := S7.cells
  have S8 := S7.t3 B
  have U8 := T2.put U7 3 (.int .i64 B)
  clear S7 U7
  have hz2 : 0 < n - (a + 1 + D + 1 + E) := by omega
  have hz3 : ¬ n - (a + 1 + D + 1 + E) = 0 := by omega
  have hz4 : (((n - (a + 1 + D + 1 + E) : Nat) : Int) == 0) = false := by simp; omega
  have hel : a + 1 + D + 1 + E < n := by omega
  have C := rest_t S8 U8
  go_wp2_with fail
  refine C.mono ?_
  rintro e w9 ⟨rfl, S9, U9⟩
  clear C S8 U8
  clear c0 c1 c2 z1 z2 k0 k1 k2 k3 k4 k5 k6 k7 f0 f1 f2 f3 f4 f5 f6 f7
  obtain ⟨⟨c0, c1, c2, z1, z2⟩, ⟨k0, k1, k2, k3, k4, k5, k6, k7⟩, ⟨f0, f1, f2, f3, f4, f5, f6, f7⟩⟩ := S9.cells
  obtain ⟨bb, off, rfl, hbb, hcb⟩ := S9.rs.byt
  have cx := hcb (a + 1 + D + 1 + E) hel
  clear hcb
  have RE : ∀ q, Calls Tryz.prog 44 #[.pointer (some ⟨rb, 0, none⟩)] (w9.drewN q) fun e w' => e = .returned (.slice (some ⟨bb, off + (a + 1 + D + 1 + E), none⟩) (n - (a + 1 + D + 1 + E)) (cap - (a + 1 + D + 1 + E))) ∧ ∃ q', w' = w9.drewN (q + q') := fun q => (rest_any rb _ n cap f (a + 1 + D + 1 + E) k c p (w9.drewN q) (S9.rs.drewN q)).mono fun e w' h => by
    obtain ⟨q', h1, h2⟩ := h
    rw [rA_lt bb off (a + 1 + D + 1 + E) cap (by omega)] at h1
    exact ⟨h1, q', by rw [h2, World.drewN_drewN]⟩
  have RE0 : Calls Tryz.prog 44 #[.pointer (some ⟨rb, 0, none⟩)] w9 fun e w' => e = .returned (.slice (some ⟨bb, off + (a + 1 + D + 1 + E), none⟩) (n - (a + 1 + D + 1 + E)) (cap - (a + 1 + D + 1 + E))) ∧ ∃ q', w' = w9.drewN q' := (rest_any rb _ n cap f (a + 1 + D + 1 + E) k c p w9 S9.rs).mono fun e w' h => by
    obtain ⟨q', h1, h2⟩ := h
    rw [rA_lt bb off (a + 1 + D + 1 + E) cap (by omega)] at h1
    exact ⟨h1, q', h2⟩
  have hz5 : (0 : Int) < ((n - (a + 1 + D + 1 + E) : Nat) : Int) := by omega
  have hA : ¬ V < 0 := by omega
  have hA2 : decide (V < 0) = false := by simp; omega
  obtain ⟨yy, hyy⟩ : ∃ yy, f (a + 1 + D + 1 + E) = yy := ⟨_, rfl⟩
  have hy := KY.out
  rw [hyy] at cx hy
  clear hyy KY
  have hy2 : (yy == 125) = false := by simp [hy]
  have hy3 : (yy != 125) = true := by simp [hy]
  go_wp2
  go_quiet (first | (exact (RE _).mono fun _ _ h => ⟨h.1, h.2.elim fun q' e => ⟨_, e.trans (by rw [Nat.add_assoc])⟩⟩) | (exact (RE _).mono fun _ _ h => ⟨h.1, h.2.elim fun q' e => ⟨_, e⟩⟩) | (exact RE0.mono fun _ _ h => h))
  have SQ := S9.drewN nq
  have UQ := T2.drewN U9 nq
  have C := fail_t SQ UQ 150 st
  go_wp2_with fail
  refine C.mono ?_
  rintro e w9 ⟨rfl, S9, U9⟩
  clear C
  go_wp2
  go_ret
  exact ⟨rfl, ⟨_, _, S9⟩, U9⟩
set_option maxHeartbeats 4000000 in
set_option maxRecDepth 100000 in
theorem rc_comma_big (rb tb : Nat) (ao : Option Addr) (n cap : Nat) (f : Nat → Int) (a k : Nat) (c p : Int) (st : Nat) (w : World) (h : RT w rb tb ao n cap f a k c p ⟨6, 0, 0, 0, [], false, st, 0⟩) (hst : noneC f st = 150) (hl : a < n) (D : Nat) (V : Int) (hD : cntD digitB f n 3 (a + 1) = D) (hV : numV f n 3 (a + 1) = V) (hV0 : 0 ≤ V) (hq : hasB f n (a + 1 + D) [44] = true) (E : Nat) (B : Int) (hE : cntD digitB f n 3 (a + 1 + D + 1) = E) (hB : numV f n 3 (a + 1 + D + 1) = B) (hz : ¬ n ≤ a + 1 + D + 1 + E) (hy : f (a + 1 + D + 1 + E) = 125) (hx : 100 < V) :
    Calls Tryz.prog 85 #[.pointer (some ⟨rb, 0, none⟩), .pointer (some ⟨tb, 0, none⟩)] w (REc w rb tb ao n cap f k c p st (.no 150 st)) := by
  have hf := h.rs.ff
  have hv := numV_neg f n 3 (a + 1) hf (by decide)
  have hd := (cntD_le digitB f n 3 (a + 1)).2 hl
  rw [hD] at hd
  rw [hV] at hv
  obtain ⟨-, hv1, hv2⟩ := hv
  have KD : Hid (cntD digitB f n 3 (a + 1) = D) := hD
  have KV : Hid (numV f n 3 (a + 1) = V) := hV
  clear hD hV
  have hcm1 : a + 1 + D + 1 ≤ n := by
    have := hq
    simp [hasB, at_] at this
    omega
  have hw2 := numV_neg f n 3 (a + 1 + D + 1) hf (by decide)
  have hd2 := (cntD_le digitB f n 3 (a + 1 + D + 1)).2 hcm1
  rw [hE] at hd2
  rw [hB] at hw2
  obtain ⟨-, hw3, hw4⟩ := hw2
  have KE : Hid (cntD digitB f n 3 (a + 1 + D + 1) = E) := hE
  have KB : Hid (numV f n 3 (a + 1 + D + 1) = B) := hB
  clear hE hB
  have KQ : Hid (hasB f n (a + 1 + D) [44] = true) := hq
  clear hq
  have KY : Hid (f (a + 1 + D + 1 + E) = 125) := hy
  clear hy
  clear hf
  have S0 := h
  have U0 : T2 rb tb w w := lin.Turns.refl _ w
  have hne : ¬ tb = rb := h.ne
  have hne' : ¬ rb = tb := fun e => h.ne e.symm
  have hn := h.rs.nn
  have ha := h.rs.aa
  have hcc := h.rs.cc
  have hcm := h.rs.cm
  clear h
  obtain ⟨⟨c0, c1, c2, z1, z2⟩, ⟨k0, k1, k2, k3, k4, k5, k6, k7⟩, ⟨f0, f1, f2, f3, f4, f5, f6, f7⟩⟩ := S0.cells
  go_enter Tryz.func85, Tryz.ntmps85
  have S1 := S0.put1 (x := ((a : Nat) : Int) + 1) (a' := a + 1) (by omega) (by omega)
  have U1 := T2.at U0 1 (.int .i64 (((a : Nat) : Int) + 1))
  clear S0 U0
  have C := number_t S1 U1 3 (by decide)
  go_wp2_with fail
  refine C.mono ?_
  rintro e w2 ⟨rfl, S2, U2⟩
  clear C S1 U1
  clear c0 c1 c2 z1 z2 k0 k1 k2 k3 k4 k5 k6 k7 f0 f1 f2 f3 f4 f5 f6 f7
  obtain ⟨⟨c0, c1, c2, z1, z2⟩, ⟨k0, k1, k2, k3, k4, k5, k6, k7⟩, ⟨f0, f1, f2, f3, f4, f5, f6, f7⟩⟩ := S2.cells
  rw [KD.out] at S2
  rw [KV.out]
  clear c0 c1 c2 z1 z2 k0 k1 k2 k3 k4 k5 k6 k7 f0 f1 f2 f3 f4 f5 f6 f7
  obtain ⟨⟨c0, c1, c2, z1, z2⟩, ⟨k0, k1, k2, k3, k4, k5, k6, k7⟩, ⟨f0, f1, f2, f3, f4, f5, f6, f7⟩⟩ := S2.cells
  have S3 := S2.t2 V
  have U3 := T2.put U2 2 (.int .i64 V)
  clear S2 U2
  have S4 := S3.t3 V
  have U4 := T2.put U3 3 (.int .i64 V)
  clear S3 U3
  have C := has_t S4 U4 [44] (by decide) (by decide)
  rw [KQ.out] at C
  go_wp2_with fail
  refine C.mono ?_
  rintro e w5 ⟨rfl, S5, U5⟩
  clear C S4 U4
  clear c0 c1 c2 z1 z2 k0 k1 k2 k3 k4 k5 k6 k7 f0 f1 f2 f3 f4 f5 f6 f7
  obtain ⟨⟨c0, c1, c2, z1, z2⟩, ⟨k0, k1, k2, k3, k4, k5, k6, k7⟩, ⟨f0, f1, f2, f3, f4, f5, f6, f7⟩⟩ := S5.cells
  have S6 := S5.put1 (x := ((a + 1 + D : Nat) : Int) + 1) (a' := a + 1 + D + 1) (by omega) (by omega)
  have U6 := T2.at U5 1 (.int .i64 (((a + 1 + D : Nat) : Int) + 1))
  clear S5 U5
  have C := number_t S6 U6 3 (by decide)
  go_wp2_with fail
  refine C.mono ?_
  rintro e w7 ⟨rfl, S7, U7⟩
  clear C S6 U6
  clear c0 c1 c2 z1 z2 k0 k1 k2 k3 k4 k5 k6 k7 f0 f1 f2 f3 f4 f5 f6 f7
  obtain ⟨⟨c0, c1, c2, z1, z2⟩, ⟨k0, k1, k2, k3, k4, k5, k6, k7⟩, ⟨f0, f1, f2, f3, f4, f5, f6, f7⟩⟩ := S7.cells
  rw [KE.out] at S7
  rw [KB.out]
  clear c0 c1 c2 z1 z2 k0 k1 k2 k3 k4 k5 k6 k7 f0 f1 f2 f3 f4 f5 f6 f7
  obtain ⟨⟨c0, c1, c2, z1, z2⟩, ⟨k0, k1, k2, k3, k4, k5, k6, k7⟩, ⟨f0, f1, f2, f3, f4, f5, f6, f7⟩⟩ := S7.cells
  have S8 := S7.t3 B
  have U8 := T2.put U7 3 (.int .i64 B)
  clear S7 U7
  have hz2 : 0 < n - (a + 1 + D + 1 + E) := by omega
  have hz3 : ¬ n - (a + 1 + D + 1 + E) = 0 := by omega
  have hz4 : (((n - (a + 1 + D + 1 + E) : Nat) : Int) == 0) = false := by simp; omega
  have hel : a + 1 + D + 1 + E < n := by omega
  have C := rest_t S8 U8
  go_wp2_with fail
  refine C.mono ?_
  rintro e w9 ⟨rfl, S9, U9⟩
  clear C S8 U8
  clear c0 c1 c2 z1 z2 k0 k1 k2 k3 k4 k5 k6 k7 f0 f1 f2 f3 f4 f5 f6 f7
  obtain ⟨⟨c0, c1, c2, z1, z2⟩, ⟨k0, k1, k2, k3, k4, k5, k6, k7⟩, ⟨f0, f1, f2, f3, f4, f5, f6, f7⟩⟩ := S9.cells
  obtain ⟨bb, off, rfl, hbb, hcb⟩ := S9.rs.byt
  have cx := hcb (a + 1 + D + 1 + E) hel
  clear hcb
  have RE : ∀ q, Calls Tryz.prog 44 #[.pointer (some ⟨rb, 0, none⟩)] (w9.drewN q) fun e w' => e = .returned (.slice (some ⟨bb, off + (a + 1 + D + 1 + E), none⟩) (n - (a + 1 + D + 1 + E)) (cap - (a + 1 + D + 1 + E))) ∧ ∃ q', w' = w9.drewN (q + q') := fun q => (rest_any rb _ n cap f (a + 1 + D + 1 + E) k c p (w9.drewN q) (S9.rs.drewN q)).mono fun e w' h => by
    obtain ⟨q', h1, h2⟩ := h
    rw [rA_lt bb off (a + 1 + D + 1 + E) cap (by omega)] at h1
    exact ⟨h1, q', by rw [h2, World.drewN_drewN]⟩
  have RE0 : Calls Tryz.prog 44 #[.pointer (some ⟨rb, 0, none⟩)] w9 fun e w' => e = .returned (.slice (some ⟨bb, off + (a + 1 + D + 1 + E), none⟩) (n - (a + 1 + D + 1 + E)) (cap - (a + 1 + D + 1 + E))) ∧ ∃ q', w' = w9.drewN q' := (rest_any rb _ n cap f (a + 1 + D + 1 + E) k c p w9 S9.rs).mono fun e w' h => by
    obtain ⟨q', h1, h2⟩ := h
    rw [rA_lt bb off (a + 1 + D + 1 + E) cap (by omega)] at h1
    exact ⟨h1, q', h2⟩
  have hz5 : (0 : Int) < ((n - (a + 1 + D + 1 + E) : Nat) : Int) := by omega
  have hA : ¬ V < 0 := by omega
  have hA2 : decide (V < 0) = false := by simp; omega
  rw [KY.out] at cx
  clear KY
  go_wp2
  go_quiet (first | (exact (RE _).mono fun _ _ h => ⟨h.1, h.2.elim fun q' e => ⟨_, e.trans (by rw [Nat.add_assoc])⟩⟩) | (exact (RE _).mono fun _ _ h => ⟨h.1, h.2.elim fun q' e => ⟨_, e⟩⟩) | (exact RE0.mono fun _ _ h => h))
  have SQ := S9.drewN nq
  have UQ := T2.drewN U9 nq
  have C := fail_t SQ UQ 150 st
  go_wp2_with fail
  refine C.mono ?_
  rintro e w9 ⟨rfl, S9, U9⟩
  clear C
  go_wp2
  go_ret
  exact ⟨rfl, ⟨_, _, S9⟩, U9⟩
end Go.Proofs.YtlgkfnecahgedaaGreatDoor.tok
end

section
/- The document's repetitions by numbers: two numbers. -/
set_option linter.unusedVariables false
set_option linter.unusedSimpArgs false
namespace Go.Proofs.YtlgkfnecahgedaaGreatDoor.tok
open Go.RowKit
open lin (BA Turns)

set_option maxHeartbeats 4000000 in
set_option maxRecDepth 100000 in
theorem rc_comma_bigB (rb tb : Nat) (ao : Option Addr) (n cap : Nat) (f : Nat → Int) (a k : Nat) (c p : Int) (st : Nat) (w : World) (h : RT w rb tb ao n cap f a k c p ⟨6, 0, 0, 0, [], false, st, 0⟩) (hst : noneC f st = 150) (hl : a < n) (D : Nat) (V : Int) (hD : cntD digitB f n 3 (a + 1) = D) (hV : numV f n 3 (a + 1) = V) (hV0 : 0 ≤ V) (hq : hasB f n (a + 1 + D) [44] = true) (E : Nat) (B : Int) (hE : cntD digitB f n 3 (a + 1 + D + 1) = E) (hB : numV f n 3 (a + 1 + D + 1) = B) (hz : ¬ n ≤ a + 1 + D + 1 + E) (hy : f (a + 1 + D + 1 + E) = 125) (hx : ¬ 100 < V) (hb1 : 100 < B) :
    Calls Tryz.prog 85 #[.pointer (some ⟨rb, 0, none⟩), .pointer (some ⟨tb, 0, none⟩)] w (REc w rb tb ao n cap f k c p st (.no 150 st)) := by
  have hf := h.rs.ff
  have hv := numV_neg f n 3 (a + 1) hf (by decide)
  have hd := (cntD_le digitB f n 3 (a + 1)).2 hl
  rw [hD] at hd
  rw [hV] at hv
  obtain ⟨-, hv1, hv2⟩ := hv
  have KD : Hid (cntD digitB f n 3 (a + 1) = D) := hD
  have KV : Hid (numV f n 3 (a + 1) = V) := hV
  clear hD hV
  have hcm1 : a + 1 + D + 1 ≤ n := by
    have := hq
    simp [hasB, at_] at this
    omega
  have hw2 := numV_neg f n 3 (a + 1 + D + 1) hf (by decide)
  have hd2 := (cntD_le digitB f n 3 (a + 1 + D + 1)).2 hcm1
  rw [hE] at hd2
  rw [hB] at hw2
  obtain ⟨-, hw3, hw4⟩ := hw2
  have KE : Hid (cntD digitB f n 3 (a + 1 + D + 1) = E) := hE
  have KB : Hid (numV f n 3 (a + 1 + D + 1) = B) := hB
  clear hE hB
  have KQ : Hid (hasB f n (a + 1 + D) [44] = true) := hq
  clear hq
  have KY : Hid (f (a + 1 + D + 1 + E) = 125) := hy
  clear hy
  clear hf
  have S0 := h
  have U0 : T2 rb tb w w := lin.Turns.refl _ w
  have hne : ¬ tb = rb := h.ne
  have hne' : ¬ rb = tb := fun e => h.ne e.symm
  have hn := h.rs.nn
  have ha := h.rs.aa
  have hcc := h.rs.cc
  have hcm := h.rs.cm
  clear h
  obtain ⟨⟨c0, c1, c2, z1, z2⟩, ⟨k0, k1, k2, k3, k4, k5, k6, k7⟩, ⟨f0, f1, f2, f3, f4, f5, f6, f7⟩⟩ := S0.cells
  go_enter Tryz.func85, Tryz.ntmps85
  have S1 := S0.put1 (x := ((a : Nat) : Int) + 1) (a' := a + 1) (by omega) (by omega)
  have U1 := T2.at U0 1 (.int .i64 (((a : Nat) : Int) + 1))
  clear S0 U0
  have C := number_t S1 U1 3 (by decide)
  go_wp2_with fail
  refine C.mono ?_
  rintro e w2 ⟨rfl, S2, U2⟩
  clear C S1 U1
  clear c0 c1 c2 z1 z2 k0 k1 k2 k3 k4 k5 k6 k7 f0 f1 f2 f3 f4 f5 f6 f7
  obtain ⟨⟨c0, c1, c2, z1, z2⟩, ⟨k0, k1, k2, k3, k4, k5, k6, k7⟩, ⟨f0, f1, f2, f3, f4, f5, f6, f7⟩⟩ := S2.cells
  rw [KD.out] at S2
  rw [KV.out]
  clear c0 c1 c2 z1 z2 k0 k1 k2 k3 k4 k5 k6 k7 f0 f1 f2 f3 f4 f5 f6 f7
  obtain ⟨⟨c0, c1, c2, z1, z2⟩, ⟨k0, k1, k2, k3, k4, k5, k6, k7⟩, ⟨f0, f1, f2, f3, f4, f5, f6, f7⟩⟩ := S2.cells
  have S3 := S2.t2 V
  have U3 := T2.put U2 2 (.int .i64 V)
  clear S2 U2
  have S4 := S3.t3 V
  have U4 := T2.put U3 3 (.int .i64 V)
  clear S3 U3
  have C := has_t S4 U4 [44] (by decide) (by decide)
  rw [KQ.out] at C
  go_wp2_with fail
  refine C.mono ?_
  rintro e w5 ⟨rfl, S5, U5⟩
  clear C S4 U4
  clear c0 c1 c2 z1 z2 k0 k1 k2 k3 k4 k5 k6 k7 f0 f1 f2 f3 f4 f5 f6 f7
  obtain ⟨⟨c0, c1, c2, z1, z2⟩, ⟨k0, k1, k2, k3, k4, k5, k6, k7⟩, ⟨f0, f1, f2, f3, f4, f5, f6, f7⟩⟩ := S5.cells
  have S6 := S5.put1 (x := ((a + 1 + D : Nat) : Int) + 1) (a' := a + 1 + D + 1) (by omega) (by omega)
  have U6 := T2.at U5 1 (.int .i64 (((a + 1 + D : Nat) : Int) + 1))
  clear S5 U5
  have C := number_t S6 U6 3 (by decide)
  go_wp2_with fail
  refine C.mono ?_
  rintro e w7 ⟨rfl, S7, U7⟩
  clear C S6 U6
  clear c0 c1 c2 z1 z2 k0 k1 k2 k3 k4 k5 k6 k7 f0 f1 f2 f3 f4 f5 f6 f7
  obtain ⟨⟨c0, c1, c2, z1, z2⟩, ⟨k0, k1, k2, k3, k4, k5, k6, k7⟩, ⟨f0, f1, f2, f3, f4, f5, f6, f7⟩⟩ := S7.cells
  rw [KE.out] at S7
  rw [KB.out]
  clear c0 c1 c2 z1 z2 k0 k1 k2 k3 k4 k5 k6 k7 f0 f1 f2 f3 f4 f5 f6 f7
  obtain ⟨⟨c0, c1, c2, z1, z2⟩, ⟨k0, k1, k2, k3, k4, k5, k6, k7⟩, ⟨f0, f1, f2, f3, f4, f5, f6, f7⟩⟩ := S7.cells
  have S8 := S7.t3 B
  have U8 := T2.put U7 3 (.int .i64 B)
  clear S7 U7
  have hz2 : 0 < n - (a + 1 + D + 1 + E) := by omega
  have hz3 : ¬ n - (a + 1 + D + 1 + E) = 0 := by omega
  have hz4 : (((n - (a + 1 + D + 1 + E) : Nat) : Int) == 0) = false := by simp; omega
  have hel : a + 1 + D + 1 + E < n := by omega
  have C := rest_t S8 U8
  go_wp2_with fail
  refine C.mono ?_
  rintro e w9 ⟨rfl, S9, U9⟩
  clear C S8 U8
  clear c0 c1 c2 z1 z2 k0 k1 k2 k3 k4 k5 k6 k7 f0 f1 f2 f3 f4 f5 f6 f7
  obtain ⟨⟨c0, c1, c2, z1, z2⟩, ⟨k0, k1, k2, k3, k4, k5, k6, k7⟩, ⟨f0, f1, f2, f3, f4, f5, f6, f7⟩⟩ := S9.cells
  obtain ⟨bb, off, rfl, hbb, hcb⟩ := S9.rs.byt
  have cx := hcb (a + 1 + D + 1 + E) hel
  clear hcb
  have RE : ∀ q, Calls Tryz.prog 44 #[.pointer (some ⟨rb, 0, none⟩)] (w9.drewN q) fun e w' => e = .returned (.slice (some ⟨bb, off + (a + 1 + D + 1 + E), none⟩) (n - (a + 1 + D + 1 + E)) (cap - (a + 1 + D + 1 + E))) ∧ ∃ q', w' = w9.drewN (q + q') := fun q => (rest_any rb _ n cap f (a + 1 + D + 1 + E) k c p (w9.drewN q) (S9.rs.drewN q)).mono fun e w' h => by
    obtain ⟨q', h1, h2⟩ := h
    rw [rA_lt bb off (a + 1 + D + 1 + E) cap (by omega)] at h1
    exact ⟨h1, q', by rw [h2, World.drewN_drewN]⟩
  have RE0 : Calls Tryz.prog 44 #[.pointer (some ⟨rb, 0, none⟩)] w9 fun e w' => e = .returned (.slice (some ⟨bb, off + (a + 1 + D + 1 + E), none⟩) (n - (a + 1 + D + 1 + E)) (cap - (a + 1 + D + 1 + E))) ∧ ∃ q', w' = w9.drewN q' := (rest_any rb _ n cap f (a + 1 + D + 1 + E) k c p w9 S9.rs).mono fun e w' h => by
    obtain ⟨q', h1, h2⟩ := h
    rw [rA_lt bb off (a + 1 + D + 1 + E) cap (by omega)] at h1
    exact ⟨h1, q', h2⟩
  have hz5 : (0 : Int) < ((n - (a + 1 + D + 1 + E) : Nat) : Int) := by omega
  have hA : ¬ V < 0 := by omega
  have hA2 : decide (V < 0) = false := by simp; omega
  rw [KY.out] at cx
  clear KY
  have hb5 : decide (100 < B) = true := by simp; omega
  have hb6 : decide (100 < V) = false := by simp; omega
  clear hw3 hw4
  go_wp2
  go_quiet (first | (exact (RE _).mono fun _ _ h => ⟨h.1, h.2.elim fun q' e => ⟨_, e.trans (by rw [Nat.add_assoc])⟩⟩) | (exact (RE _).mono fun _ _ h => ⟨h.1, h.2.elim fun q' e => ⟨_, e⟩⟩) | (exact RE0.mono fun _ _ h => h))
  have SQ := S9.drewN nq
  have UQ := T2.drewN U9 nq
  have C := fail_t SQ UQ 150 st
  go_wp2_with fail
  refine C.mono ?_
  rintro e w9 ⟨rfl, S9, U9⟩
  clear C
  go_wp2
  go_ret
  exact ⟨rfl, ⟨_, _, S9⟩, U9⟩
end Go.Proofs.YtlgkfnecahgedaaGreatDoor.tok
end

section
/- The document's repetitions by numbers: two numbers. -/
set_option linter.unusedVariables false
set_option linter.unusedSimpArgs false
namespace Go.Proofs.YtlgkfnecahgedaaGreatDoor.tok
open Go.RowKit
open lin (BA Turns)

set_option maxHeartbeats 4000000 in
set_option maxRecDepth 100000 in
theorem rc_comma_ok0 (rb tb : Nat) (ao : Option Addr) (n cap : Nat) (f : Nat → Int) (a k : Nat) (c p : Int) (st : Nat) (w : World) (h : RT w rb tb ao n cap f a k c p ⟨6, 0, 0, 0, [], false, st, 0⟩) (hst : noneC f st = 150) (hl : a < n) (D : Nat) (V : Int) (hD : cntD digitB f n 3 (a + 1) = D) (hV : numV f n 3 (a + 1) = V) (hV0 : 0 ≤ V) (hq : hasB f n (a + 1 + D) [44] = true) (E : Nat) (B : Int) (hE : cntD digitB f n 3 (a + 1 + D + 1) = E) (hB : numV f n 3 (a + 1 + D + 1) = B) (hz : ¬ n ≤ a + 1 + D + 1 + E) (hy : f (a + 1 + D + 1 + E) = 125) (hx : ¬ 100 < V) (hb1 : ¬ 100 < B) (hb3 : ¬ 0 ≤ B) :
    Calls Tryz.prog 85 #[.pointer (some ⟨rb, 0, none⟩), .pointer (some ⟨tb, 0, none⟩)] w (REc w rb tb ao n cap f k c p st (.ok (V, B) (a + 1 + D + 1 + E + 1))) := by
  have hf := h.rs.ff
  have hv := numV_neg f n 3 (a + 1) hf (by decide)
  have hd := (cntD_le digitB f n 3 (a + 1)).2 hl
  rw [hD] at hd
  rw [hV] at hv
  obtain ⟨-, hv1, hv2⟩ := hv
  have KD : Hid (cntD digitB f n 3 (a + 1) = D) := hD
  have KV : Hid (numV f n 3 (a + 1) = V) := hV
  clear hD hV
  have hcm1 : a + 1 + D + 1 ≤ n := by
    have := hq
    simp [hasB, at_] at this
    omega
  have hw2 := numV_neg f n 3 (a + 1 + D + 1) hf (by decide)
  have hd2 := (cntD_le digitB f n 3 (a + 1 + D + 1)).2 hcm1
  rw [hE] at hd2
  rw [hB] at hw2
  obtain ⟨-, hw3, hw4⟩ := hw2
  have KE : Hid (cntD digitB f n 3 (a + 1 + D + 1) = E) := hE
  have KB : Hid (numV f n 3 (a + 1 + D + 1) = B) := hB
  clear hE hB
  have KQ : Hid (hasB f n (a + 1 + D) [44] = true) := hq
  clear hq
  have KY : Hid (f (a + 1 + D + 1 + E) = 125) := hy
  clear hy
  clear hf
  have S0 := h
  have U0 : T2 rb tb w w := lin.Turns.refl _ w
  have hne : ¬ tb = rb := h.ne
  have hne' : ¬ rb = tb := fun e => h.ne e.symm
  have hn := h.rs.nn
  have ha := h.rs.aa
  have hcc := h.rs.cc
  have hcm := h.rs.cm
  clear h
  obtain ⟨⟨c0, c1, c2, z1, z2⟩, ⟨k0, k1, k2, k3, k4, k5, k6, k7⟩, ⟨f0, f1, f2, f3, f4, f5, f6, f7⟩⟩ := S0.cells
  go_enter Tryz.func85, Tryz.ntmps85
  have S1 := S0.put1 (x := ((a : Nat) : Int) + 1) (a' := a + 1) (by omega) (by omega)
  have U1 := T2.at U0 1 (.int .i64 (((a : Nat) : Int) + 1))
  clear S0 U0
  have C := number_t S1 U1 3 (by decide)
  go_wp2_with fail
  refine C.mono ?_
  rintro e w2 ⟨rfl, S2, U2⟩
  clear C S1 U1
  clear c0 c1 c2 z1 z2 k0 k1 k2 k3 k4 k5 k6 k7 f0 f1 f2 f3 f4 f5 f6 f7
  obtain ⟨⟨c0, c1, c2, z1, z2⟩, ⟨k0, k1, k2, k3, k4, k5, k6, k7⟩, ⟨f0, f1, f2, f3, f4, f5, f6, f7⟩⟩ := S2.cells
  rw [KD.out] at S2
  rw [KV.out]
  clear c0 c1 c2 z1 z2 k0 k1 k2 k3 k4 k5 k6 k7 f0 f1 f2 f3 f4 f5 f6 f7
  obtain ⟨⟨c0, c1, c2, z1, z2⟩, ⟨k0, k1, k2, k3, k4, k5, k6, k7⟩, ⟨f0, f1, f2, f3, f4, f5, f6, f7⟩⟩ := S2.cells
  have S3 := S2.t2 V
  have U3 := T2.put U2 2 (.int .i64 V)
  clear S2 U2
  have S4 := S3.t3 V
  have U4 := T2.put U3 3 (.int .i64 V)
  clear S3 U3
  have C := has_t S4 U4 [44] (by decide) (by decide)
  rw [KQ.out] at C
  go_wp2_with fail
  refine C.mono ?_
  rintro e w5 ⟨rfl, S5, U5⟩
  clear C S4 U4
  clear c0 c1 c2 z1 z2 k0 k1 k2 k3 k4 k5 k6 k7 f0 f1 f2 f3 f4 f5 f6 f7
  obtain ⟨⟨c0, c1, c2, z1, z2⟩, ⟨k0, k1, k2, k3, k4, k5, k6, k7⟩, ⟨f0, f1, f2, f3, f4, f5, f6, f7⟩⟩ := S5.cells
  have S6 := S5.put1 (x := ((a + 1 + D : Nat) : Int) + 1) (a' := a + 1 + D + 1) (by omega) (by omega)
  have U6 := T2.at U5 1 (.int .i64 (((a + 1 + D : Nat) : Int) + 1))
  clear S5 U5
  have C := number_t S6 U6 3 (by decide)
  go_wp2_with fail
  refine C.mono ?_
  rintro e w7 ⟨rfl, S7, U7⟩
  clear C S6 U6
  clear c0 c1 c2 z1 z2 k0 k1 k2 k3 k4 k5 k6 k7 f0 f1 f2 f3 f4 f5 f6 f7
  obtain ⟨⟨c0, c1, c2, z1, z2⟩, ⟨k0, k1, k2, k3, k4, k5, k6, k7⟩, ⟨f0, f1, f2, f3, f4, f5, f6, f7⟩⟩ := S7.cells
  rw [KE.out] at S7
  rw [KB.out]
  clear c0 c1 c2 z1 z2 k0 k1 k2 k3 k4 k5 k6 k7 f0 f1 f2 f3 f4 f5 f6 f7
  obtain ⟨⟨c0, c1, c2, z1, z2⟩, ⟨k0, k1, k2, k3, k4, k5, k6, k7⟩, ⟨f0, f1, f2, f3, f4, f5, f6, f7⟩⟩ := S7.cells
  have S8 := S7.t3 B
  have U8 := T2.put U7 3 (.int .i64 B)
  clear S7 U7
  have hz2 : 0 < n - (a + 1 + D + 1 + E) := by omega
  have hz3 : ¬ n - (a + 1 + D + 1 + E) = 0 := by omega
  have hz4 : (((n - (a + 1 + D + 1 + E) : Nat) : Int) == 0) = false := by simp; omega
  have hel : a + 1 + D + 1 + E < n := by omega
  have C := rest_t S8 U8
  go_wp2_with fail
  refine C.mono ?_
  rintro e w9 ⟨rfl, S9, U9⟩
  clear C S8 U8
  clear c0 c1 c2 z1 z2 k0 k1 k2 k3 k4 k5 k6 k7 f0 f1 f2 f3 f4 f5 f6 f7
  obtain ⟨⟨c0, c1, c2, z1, z2⟩, ⟨k0, k1, k2, k3, k4, k5, k6, k7⟩, ⟨f0, f1, f2, f3, f4, f5, f6, f7⟩⟩ := S9.cells
  obtain ⟨bb, off, rfl, hbb, hcb⟩ := S9.rs.byt
  have cx := hcb (a + 1 + D + 1 + E) hel
  clear hcb
  have RE : ∀ q, Calls Tryz.prog 44 #[.pointer (some ⟨rb, 0, none⟩)] (w9.drewN q) fun e w' => e = .returned (.slice (some ⟨bb, off + (a + 1 + D + 1 + E), none⟩) (n - (a + 1 + D + 1 + E)) (cap - (a + 1 + D + 1 + E))) ∧ ∃ q', w' = w9.drewN (q + q') := fun q => (rest_any rb _ n cap f (a + 1 + D + 1 + E) k c p (w9.drewN q) (S9.rs.drewN q)).mono fun e w' h => by
    obtain ⟨q', h1, h2⟩ := h
    rw [rA_lt bb off (a + 1 + D + 1 + E) cap (by omega)] at h1
    exact ⟨h1, q', by rw [h2, World.drewN_drewN]⟩
  have RE0 : Calls Tryz.prog 44 #[.pointer (some ⟨rb, 0, none⟩)] w9 fun e w' => e = .returned (.slice (some ⟨bb, off + (a + 1 + D + 1 + E), none⟩) (n - (a + 1 + D + 1 + E)) (cap - (a + 1 + D + 1 + E))) ∧ ∃ q', w' = w9.drewN q' := (rest_any rb _ n cap f (a + 1 + D + 1 + E) k c p w9 S9.rs).mono fun e w' h => by
    obtain ⟨q', h1, h2⟩ := h
    rw [rA_lt bb off (a + 1 + D + 1 + E) cap (by omega)] at h1
    exact ⟨h1, q', h2⟩
  have hz5 : (0 : Int) < ((n - (a + 1 + D + 1 + E) : Nat) : Int) := by omega
  have hA : ¬ V < 0 := by omega
  have hA2 : decide (V < 0) = false := by simp; omega
  rw [KY.out] at cx
  clear KY
  have hb5 : decide (100 < B) = false := by simp; omega
  have hb6 : decide (100 < V) = false := by simp; omega
  have hb7 : decide (0 ≤ B) = false := by simp; omega
  clear hw3 hw4
  go_wp2
  go_quiet (first | (exact (RE _).mono fun _ _ h => ⟨h.1, h.2.elim fun q' e => ⟨_, e.trans (by rw [Nat.add_assoc])⟩⟩) | (exact (RE _).mono fun _ _ h => ⟨h.1, h.2.elim fun q' e => ⟨_, e⟩⟩) | (exact RE0.mono fun _ _ h => h))
  have SQ := (S9.drewN nq).put1 (x := ((a + 1 + D + 1 + E : Nat) : Int) + 1) (a' := a + 1 + D + 1 + E + 1) (by omega) (by omega)
  have UQ := T2.at (T2.drewN U9 nq) 1 (.int .i64 (((a + 1 + D + 1 + E : Nat) : Int) + 1))
  go_wp2
  go_ret
  exact ⟨rfl, SQ, UQ⟩
end Go.Proofs.YtlgkfnecahgedaaGreatDoor.tok
end

section
/- The document's repetitions by numbers: two numbers. -/
set_option linter.unusedVariables false
set_option linter.unusedSimpArgs false
namespace Go.Proofs.YtlgkfnecahgedaaGreatDoor.tok
open Go.RowKit
open lin (BA Turns)

set_option maxHeartbeats 4000000 in
set_option maxRecDepth 100000 in
theorem rc_comma_ok1 (rb tb : Nat) (ao : Option Addr) (n cap : Nat) (f : Nat → Int) (a k : Nat) (c p : Int) (st : Nat) (w : World) (h : RT w rb tb ao n cap f a k c p ⟨6, 0, 0, 0, [], false, st, 0⟩) (hst : noneC f st = 150) (hl : a < n) (D : Nat) (V : Int) (hD : cntD digitB f n 3 (a + 1) = D) (hV : numV f n 3 (a + 1) = V) (hV0 : 0 ≤ V) (hq : hasB f n (a + 1 + D) [44] = true) (E : Nat) (B : Int) (hE : cntD digitB f n 3 (a + 1 + D + 1) = E) (hB : numV f n 3 (a + 1 + D + 1) = B) (hz : ¬ n ≤ a + 1 + D + 1 + E) (hy : f (a + 1 + D + 1 + E) = 125) (hx : ¬ 100 < V) (hb1 : ¬ 100 < B) (hb3 : 0 ≤ B) (hb4 : ¬ B < V) :
    Calls Tryz.prog 85 #[.pointer (some ⟨rb, 0, none⟩), .pointer (some ⟨tb, 0, none⟩)] w (REc w rb tb ao n cap f k c p st (.ok (V, B) (a + 1 + D + 1 + E + 1))) := by
  have hf := h.rs.ff
  have hv := numV_neg f n 3 (a + 1) hf (by decide)
  have hd := (cntD_le digitB f n 3 (a + 1)).2 hl
  rw [hD] at hd
  rw [hV] at hv
  obtain ⟨-, hv1, hv2⟩ := hv
  have KD : Hid (cntD digitB f n 3 (a + 1) = D) := hD
  have KV : Hid (numV f n 3 (a + 1) = V) := hV
  clear hD hV
  have hcm1 : a + 1 + D + 1 ≤ n := by
    have := hq
    simp [hasB, at_] at this
    omega
  have hw2 := numV_neg f n 3 (a + 1 + D + 1) hf (by decide)
  have hd2 := (cntD_le digitB f n 3 (a + 1 + D + 1)).2 hcm1
  rw [hE] at hd2
  rw [hB] at hw2
  obtain ⟨-, hw3, hw4⟩ := hw2
  have KE : Hid (cntD digitB f n 3 (a + 1 + D + 1) = E) := hE
  have KB : Hid (numV f n 3 (a + 1 + D + 1) = B) := hB
  clear hE hB
  have KQ : Hid (hasB f n (a + 1 + D) [44] = true) := hq
  clear hq
  have KY : Hid (f (a + 1 + D + 1 + E) = 125) := hy
  clear hy
  clear hf
  have S0 := h
  have U0 : T2 rb tb w w := lin.Turns.refl _ w
  have hne : ¬ tb = rb := h.ne
  have hne' : ¬ rb = tb := fun e => h.ne e.symm
  have hn := h.rs.nn
  have ha := h.rs.aa
  have hcc := h.rs.cc
  have hcm := h.rs.cm
  clear h
  obtain ⟨⟨c0, c1, c2, z1, z2⟩, ⟨k0, k1, k2, k3, k4, k5, k6, k7⟩, ⟨f0, f1, f2, f3, f4, f5, f6, f7⟩⟩ := S0.cells
  go_enter Tryz.func85, Tryz.ntmps85
  have S1 := S0.put1 (x := ((a : Nat) : Int) + 1) (a' := a + 1) (by omega) (by omega)
  have U1 := T2.at U0 1 (.int .i64 (((a : Nat) : Int) + 1))
  clear S0 U0
  have C := number_t S1 U1 3 (by decide)
  go_wp2_with fail
  refine C.mono ?_
  rintro e w2 ⟨rfl, S2, U2⟩
  clear C S1 U1
  clear c0 c1 c2 z1 z2 k0 k1 k2 k3 k4 k5 k6 k7 f0 f1 f2 f3 f4 f5 f6 f7
  obtain ⟨⟨c0, c1, c2, z1, z2⟩, ⟨k0, k1, k2, k3, k4, k5, k6, k7⟩, ⟨f0, f1, f2, f3, f4, f5, f6, f7⟩⟩ := S2.cells
  rw [KD.out] at S2
  rw [KV.out]
  clear c0 c1 c2 z1 z2 k0 k1 k2 k3 k4 k5 k6 k7 f0 f1 f2 f3 f4 f5 f6 f7
  obtain ⟨⟨c0, c1, c2, z1, z2⟩, ⟨k0, k1, k2, k3, k4, k5, k6, k7⟩, ⟨f0, f1, f2, f3, f4, f5, f6, f7⟩⟩ := S2.cells
  have S3 := S2.t2 V
  have U3 := T2.put U2 2 (.int .i64 V)
  clear S2 U2
  have S4 := S3.t3 V
  have U4 := T2.put U3 3 (.int .i64 V)
  clear S3 U3
  have C := has_t S4 U4 [44] (by decide) (by decide)
  rw [KQ.out] at C
  go_wp2_with fail
  refine C.mono ?_
  rintro e w5 ⟨rfl, S5, U5⟩
  clear C S4 U4
  clear c0 c1 c2 z1 z2 k0 k1 k2 k3 k4 k5 k6 k7 f0 f1 f2 f3 f4 f5 f6 f7
  obtain ⟨⟨c0, c1, c2, z1, z2⟩, ⟨k0, k1, k2, k3, k4, k5, k6, k7⟩, ⟨f0, f1, f2, f3, f4, f5, f6, f7⟩⟩ := S5.cells
  have S6 := S5.put1 (x := ((a + 1 + D : Nat) : Int) + 1) (a' := a + 1 + D + 1) (by omega) (by omega)
  have U6 := T2.at U5 1 (.int .i64 (((a + 1 + D : Nat) : Int) + 1))
  clear S5 U5
  have C := number_t S6 U6 3 (by decide)
  go_wp2_with fail
  refine C.mono ?_
  rintro e w7 ⟨rfl, S7, U7⟩
  clear C S6 U6
  clear c0 c1 c2 z1 z2 k0 k1 k2 k3 k4 k5 k6 k7 f0 f1 f2 f3 f4 f5 f6 f7
  obtain ⟨⟨c0, c1, c2, z1, z2⟩, ⟨k0, k1, k2, k3, k4, k5, k6, k7⟩, ⟨f0, f1, f2, f3, f4, f5, f6, f7⟩⟩ := S7.cells
  rw [KE.out] at S7
  rw [KB.out]
  clear c0 c1 c2 z1 z2 k0 k1 k2 k3 k4 k5 k6 k7 f0 f1 f2 f3 f4 f5 f6 f7
  obtain ⟨⟨c0, c1, c2, z1, z2⟩, ⟨k0, k1, k2, k3, k4, k5, k6, k7⟩, ⟨f0, f1, f2, f3, f4, f5, f6, f7⟩⟩ := S7.cells
  have S8 := S7.t3 B
  have U8 := T2.put U7 3 (.int .i64 B)
  clear S7 U7
  have hz2 : 0 < n - (a + 1 + D + 1 + E) := by omega
  have hz3 : ¬ n - (a + 1 + D + 1 + E) = 0 := by omega
  have hz4 : (((n - (a + 1 + D + 1 + E) : Nat) : Int) == 0) = false := by simp; omega
  have hel : a + 1 + D + 1 + E < n := by omega
  have C := rest_t S8 U8
  go_wp2_with fail
  refine C.mono ?_
  rintro e w9 ⟨rfl, S9, U9⟩
  clear C S8 U8
  clear c0 c1 c2 z1 z2 k0 k1 k2 k3 k4 k5 k6 k7 f0 f1 f2 f3 f4 f5 f6 f7
  obtain ⟨⟨c0, c1, c2, z1, z2⟩, ⟨k0, k1, k2, k3, k4, k5, k6, k7⟩, ⟨f0, f1, f2, f3, f4, f5, f6, f7⟩⟩ := S9.cells
  obtain ⟨bb, off, rfl, hbb, hcb⟩ := S9.rs.byt
  have cx := hcb (a + 1 + D + 1 + E) hel
  clear hcb
  have RE : ∀ q, Calls Tryz.prog 44 #[.pointer (some ⟨rb, 0, none⟩)] (w9.drewN q) fun e w' => e = .returned (.slice (some ⟨bb, off + (a + 1 + D + 1 + E), none⟩) (n - (a + 1 + D + 1 + E)) (cap - (a + 1 + D + 1 + E))) ∧ ∃ q', w' = w9.drewN (q + q') := fun q => (rest_any rb _ n cap f (a + 1 + D + 1 + E) k c p (w9.drewN q) (S9.rs.drewN q)).mono fun e w' h => by
    obtain ⟨q', h1, h2⟩ := h
    rw [rA_lt bb off (a + 1 + D + 1 + E) cap (by omega)] at h1
    exact ⟨h1, q', by rw [h2, World.drewN_drewN]⟩
  have RE0 : Calls Tryz.prog 44 #[.pointer (some ⟨rb, 0, none⟩)] w9 fun e w' => e = .returned (.slice (some ⟨bb, off + (a + 1 + D + 1 + E), none⟩) (n - (a + 1 + D + 1 + E)) (cap - (a + 1 + D + 1 + E))) ∧ ∃ q', w' = w9.drewN q' := (rest_any rb _ n cap f (a + 1 + D + 1 + E) k c p w9 S9.rs).mono fun e w' h => by
    obtain ⟨q', h1, h2⟩ := h
    rw [rA_lt bb off (a + 1 + D + 1 + E) cap (by omega)] at h1
    exact ⟨h1, q', h2⟩
  have hz5 : (0 : Int) < ((n - (a + 1 + D + 1 + E) : Nat) : Int) := by omega
  have hA : ¬ V < 0 := by omega
  have hA2 : decide (V < 0) = false := by simp; omega
  rw [KY.out] at cx
  clear KY
  go_wp2
  go_quiet (first | (exact (RE _).mono fun _ _ h => ⟨h.1, h.2.elim fun q' e => ⟨_, e.trans (by rw [Nat.add_assoc])⟩⟩) | (exact (RE _).mono fun _ _ h => ⟨h.1, h.2.elim fun q' e => ⟨_, e⟩⟩) | (exact RE0.mono fun _ _ h => h))
  have SQ := (S9.drewN nq).put1 (x := ((a + 1 + D + 1 + E : Nat) : Int) + 1) (a' := a + 1 + D + 1 + E + 1) (by omega) (by omega)
  have UQ := T2.at (T2.drewN U9 nq) 1 (.int .i64 (((a + 1 + D + 1 + E : Nat) : Int) + 1))
  go_wp2
  go_ret
  exact ⟨rfl, SQ, UQ⟩
end Go.Proofs.YtlgkfnecahgedaaGreatDoor.tok
end

section
/- The document's repetitions by numbers: two numbers. -/
set_option linter.unusedVariables false
set_option linter.unusedSimpArgs false
namespace Go.Proofs.YtlgkfnecahgedaaGreatDoor.tok
open Go.RowKit
open lin (BA Turns)

set_option maxHeartbeats 4000000 in
set_option maxRecDepth 100000 in
theorem rc_comma_less (rb tb : Nat) (ao : Option Addr) (n cap : Nat) (f : Nat → Int) (a k : Nat) (c p : Int) (st : Nat) (w : World) (h : RT w rb tb ao n cap f a k c p ⟨6, 0, 0, 0, [], false, st, 0⟩) (hst : noneC f st = 150) (hl : a < n) (D : Nat) (V : Int) (hD : cntD digitB f n 3 (a + 1) = D) (hV : numV f n 3 (a + 1) = V) (hV0 : 0 ≤ V) (hq : hasB f n (a + 1 + D) [44] = true) (E : Nat) (B : Int) (hE : cntD digitB f n 3 (a + 1 + D + 1) = E) (hB : numV f n 3 (a + 1 + D + 1) = B) (hz : ¬ n ≤ a + 1 + D + 1 + E) (hy : f (a + 1 + D + 1 + E) = 125) (hx : ¬ 100 < V) (hb1 : ¬ 100 < B) (hb3 : 0 ≤ B) (hb4 : B < V) :
    Calls Tryz.prog 85 #[.pointer (some ⟨rb, 0, none⟩), .pointer (some ⟨tb, 0, none⟩)] w (REc w rb tb ao n cap f k c p st (.no 150 st)) := by
  have hf := h.rs.ff
  have hv := numV_neg f n 3 (a + 1) hf (by decide)
  have hd := (cntD_le digitB f n 3 (a + 1)).2 hl
  rw [hD] at hd
  rw [hV] at hv
  obtain ⟨-, hv1, hv2⟩ := hv
  have KD : Hid (cntD digitB f n 3 (a + 1) = D) := hD
  have KV : Hid (numV f n 3 (a + 1) = V) := hV
  clear hD hV
  have hcm1 : a + 1 + D + 1 ≤ n := by
    have := hq
    simp [hasB, at_] at this
    omega
  have hw2 := numV_neg f n 3 (a + 1 + D + 1) hf (by decide)
  have hd2 := (cntD_le digitB f n 3 (a + 1 + D + 1)).2 hcm1
  rw [hE] at hd2
  rw [hB] at hw2
  obtain ⟨-, hw3, hw4⟩ := hw2
  have KE : Hid (cntD digitB f n 3 (a + 1 + D + 1) = E) := hE
  have KB : Hid (numV f n 3 (a + 1 + D + 1) = B) := hB
  clear hE hB
  have KQ : Hid (hasB f n (a + 1 + D) [44] = true) := hq
  clear hq
  have KY : Hid (f (a + 1 + D + 1 + E) = 125) := hy
  clear hy
  clear hf
  have S0 := h
  have U0 : T2 rb tb w w := lin.Turns.refl _ w
  have hne : ¬ tb = rb := h.ne
  have hne' : ¬ rb = tb := fun e => h.ne e.symm
  have hn := h.rs.nn
  have ha := h.rs.aa
  have hcc := h.rs.cc
  have hcm := h.rs.cm
  clear h
  obtain ⟨⟨c0, c1, c2, z1, z2⟩, ⟨k0, k1, k2, k3, k4, k5, k6, k7⟩, ⟨f0, f1, f2, f3, f4, f5, f6, f7⟩⟩ := S0.cells
  go_enter Tryz.func85, Tryz.ntmps85
  have S1 := S0.put1 (x := ((a : Nat) : Int) + 1) (a' := a + 1) (by omega) (by omega)
  have U1 := T2.at U0 1 (.int .i64 (((a : Nat) : Int) + 1))
  clear S0 U0
  have C := number_t S1 U1 3 (by decide)
  go_wp2_with fail
  refine C.mono ?_
  rintro e w2 ⟨rfl, S2, U2⟩
  clear C S1 U1
  clear c0 c1 c2 z1 z2 k0 k1 k2 k3 k4 k5 k6 k7 f0 f1 f2 f3 f4 f5 f6 f7
  obtain ⟨⟨c0, c1, c2, z1, z2⟩, ⟨k0, k1, k2, k3, k4, k5, k6, k7⟩, ⟨f0, f1, f2, f3, f4, f5, f6, f7⟩⟩ := S2.cells
  rw [KD.out] at S2
  rw [KV.out]
  clear c0 c1 c2 z1 z2 k0 k1 k2 k3 k4 k5 k6 k7 f0 f1 f2 f3 f4 f5 f6 f7
  obtain ⟨⟨c0, c1, c2, z1, z2⟩, ⟨k0, k1, k2, k3, k4, k5, k6, k7⟩, ⟨f0, f1, f2, f3, f4, f5, f6, f7⟩⟩ := S2.cells
  have S3 := S2.t2 V
  have U3 := T2.put U2 2 (.int .i64 V)
  clear S2 U2
  have S4 := S3.t3 V
  have U4 := T2.put U3 3 (.int .i64 V)
  clear S3 U3
  have C := has_t S4 U4 [44] (by decide) (by decide)
  rw [KQ.out] at C
  go_wp2_with fail
  refine C.mono ?_
  rintro e w5 ⟨rfl, S5, U5⟩
  clear C S4 U4
  clear c0 c1 c2 z1 z2 k0 k1 k2 k3 k4 k5 k6 k7 f0 f1 f2 f3 f4 f5 f6 f7
  obtain ⟨⟨c0, c1, c2, z1, z2⟩, ⟨k0, k1, k2, k3, k4, k5, k6, k7⟩, ⟨f0, f1, f2, f3, f4, f5, f6, f7⟩⟩ := S5.cells
  have S6 := S5.put1 (x := ((a + 1 + D : Nat) : Int) + 1) (a' := a + 1 + D + 1) (by omega) (by omega)
  have U6 := T2.at U5 1 (.int .i64 (((a + 1 + D : Nat) : Int) + 1))
  clear S5 U5
  have C := number_t S6 U6 3 (by decide)
  go_wp2_with fail
  refine C.mono ?_
  rintro e w7 ⟨rfl, S7, U7⟩
  clear C S6 U6
  clear c0 c1 c2 z1 z2 k0 k1 k2 k3 k4 k5 k6 k7 f0 f1 f2 f3 f4 f5 f6 f7
  obtain ⟨⟨c0, c1, c2, z1, z2⟩, ⟨k0, k1, k2, k3, k4, k5, k6, k7⟩, ⟨f0, f1, f2, f3, f4, f5, f6, f7⟩⟩ := S7.cells
  rw [KE.out] at S7
  rw [KB.out]
  clear c0 c1 c2 z1 z2 k0 k1 k2 k3 k4 k5 k6 k7 f0 f1 f2 f3 f4 f5 f6 f7
  obtain ⟨⟨c0, c1, c2, z1, z2⟩, ⟨k0, k1, k2, k3, k4, k5, k6, k7⟩, ⟨f0, f1, f2, f3, f4, f5, f6, f7⟩⟩ := S7.cells
  have S8 := S7.t3 B
  have U8 := T2.put U7 3 (.int .i64 B)
  clear S7 U7
  have hz2 : 0 < n - (a + 1 + D + 1 + E) := by omega
  have hz3 : ¬ n - (a + 1 + D + 1 + E) = 0 := by omega
  have hz4 : (((n - (a + 1 + D + 1 + E) : Nat) : Int) == 0) = false := by simp; omega
  have hel : a + 1 + D + 1 + E < n := by omega
  have C := rest_t S8 U8
  go_wp2_with fail
  refine C.mono ?_
  rintro e w9 ⟨rfl, S9, U9⟩
  clear C S8 U8
  clear c0 c1 c2 z1 z2 k0 k1 k2 k3 k4 k5 k6 k7 f0 f1 f2 f3 f4 f5 f6 f7
  obtain ⟨⟨c0, c1, c2, z1, z2⟩, ⟨k0, k1, k2, k3, k4, k5, k6, k7⟩, ⟨f0, f1, f2, f3, f4, f5, f6, f7⟩⟩ := S9.cells
  obtain ⟨bb, off, rfl, hbb, hcb⟩ := S9.rs.byt
  have cx := hcb (a + 1 + D + 1 + E) hel
  clear hcb
  have RE : ∀ q, Calls Tryz.prog 44 #[.pointer (some ⟨rb, 0, none⟩)] (w9.drewN q) fun e w' => e = .returned (.slice (some ⟨bb, off + (a + 1 + D + 1 + E), none⟩) (n - (a + 1 + D + 1 + E)) (cap - (a + 1 + D + 1 + E))) ∧ ∃ q', w' = w9.drewN (q + q') := fun q => (rest_any rb _ n cap f (a + 1 + D + 1 + E) k c p (w9.drewN q) (S9.rs.drewN q)).mono fun e w' h => by
    obtain ⟨q', h1, h2⟩ := h
    rw [rA_lt bb off (a + 1 + D + 1 + E) cap (by omega)] at h1
    exact ⟨h1, q', by rw [h2, World.drewN_drewN]⟩
  have RE0 : Calls Tryz.prog 44 #[.pointer (some ⟨rb, 0, none⟩)] w9 fun e w' => e = .returned (.slice (some ⟨bb, off + (a + 1 + D + 1 + E), none⟩) (n - (a + 1 + D + 1 + E)) (cap - (a + 1 + D + 1 + E))) ∧ ∃ q', w' = w9.drewN q' := (rest_any rb _ n cap f (a + 1 + D + 1 + E) k c p w9 S9.rs).mono fun e w' h => by
    obtain ⟨q', h1, h2⟩ := h
    rw [rA_lt bb off (a + 1 + D + 1 + E) cap (by omega)] at h1
    exact ⟨h1, q', h2⟩
  have hz5 : (0 : Int) < ((n - (a + 1 + D + 1 + E) : Nat) : Int) := by omega
  have hA : ¬ V < 0 := by omega
  have hA2 : decide (V < 0) = false := by simp; omega
  rw [KY.out] at cx
  clear KY
  go_wp2
  go_quiet (first | (exact (RE _).mono fun _ _ h => ⟨h.1, h.2.elim fun q' e => ⟨_, e.trans (by rw [Nat.add_assoc])⟩⟩) | (exact (RE _).mono fun _ _ h => ⟨h.1, h.2.elim fun q' e => ⟨_, e⟩⟩) | (exact RE0.mono fun _ _ h => h))
  have SQ := S9.drewN nq
  have UQ := T2.drewN U9 nq
  have C := fail_t SQ UQ 150 st
  go_wp2_with fail
  refine C.mono ?_
  rintro e w9 ⟨rfl, S9, U9⟩
  clear C
  go_wp2
  go_ret
  exact ⟨rfl, ⟨_, _, S9⟩, U9⟩
end Go.Proofs.YtlgkfnecahgedaaGreatDoor.tok
end
