/- Texts that the proof leans on, one behind the other. -/
import Derived.Test.YtlgkfnecahgedaaGreatDoorBdTok12
import Derived.Test.YtlgkfnecahgedaaGreatDoorBdTok13

section
/- The document's repetitions. -/
set_option linter.unusedVariables false
set_option linter.unusedSimpArgs false
namespace Go.Proofs.YtlgkfnecahgedaaGreatDoor.tok
open Go.RowKit
open lin (BA Turns)

set_option maxHeartbeats 8000000 in
set_option maxRecDepth 100000 in
theorem rcounts (rb tb : Nat) (ao : Option Addr) (n cap : Nat) (f : Nat → Int) (a k : Nat) (c p : Int) (t : Tk) (st : Nat) (w : World) (h : RT w rb tb ao n cap f a k c p t) (ht : t = ⟨6, 0, 0, 0, [], false, st, 0⟩) (hst : noneC f st = 150) (hl : a < n) :
    Calls Tryz.prog 85 #[.pointer (some ⟨rb, 0, none⟩), .pointer (some ⟨tb, 0, none⟩)] w (REc w rb tb ao n cap f k c p st (countsR f n st (a + 1))) := by
  subst ht
  have N : (nope f st : Out (Int × Int)) = .no 150 st := by unfold nope; rw [hst]
  obtain ⟨D, hD⟩ : ∃ D, cntD digitB f n 3 (a + 1) = D := ⟨_, rfl⟩
  obtain ⟨V, hV⟩ : ∃ V, numV f n 3 (a + 1) = V := ⟨_, rfl⟩
  obtain ⟨E, hE⟩ : ∃ E, cntD digitB f n 3 (a + 1 + D + 1) = E := ⟨_, rfl⟩
  obtain ⟨B, hB⟩ : ∃ B, numV f n 3 (a + 1 + D + 1) = B := ⟨_, rfl⟩
  unfold countsR
  rw [hD, hV, hE, hB]
  by_cases hV0 : 0 ≤ V
  · by_cases hq : hasB f n (a + 1 + D) [44] = true
    · rw [if_pos ⟨hV0, hq⟩]
      unfold chk
      by_cases hz : n ≤ a + 1 + D + 1 + E
      · rw [if_pos hz]; exact rc_comma_end rb tb ao n cap f a k c p st w h hst hl D V hD hV hV0 hq E B hE hB hz
      · rw [if_neg hz]
        by_cases hy : f (a + 1 + D + 1 + E) = 125
        · by_cases hx : 100 < V
          · rw [if_pos (by omega), N]; exact rc_comma_big rb tb ao n cap f a k c p st w h hst hl D V hD hV hV0 hq E B hE hB hz hy hx
          · by_cases hb1 : 100 < B
            · rw [if_pos (by omega), N]; exact rc_comma_bigB rb tb ao n cap f a k c p st w h hst hl D V hD hV hV0 hq E B hE hB hz hy hx hb1
            · by_cases hb3 : 0 ≤ B
              · by_cases hb4 : B < V
                · rw [if_pos (by omega), N]; exact rc_comma_less rb tb ao n cap f a k c p st w h hst hl D V hD hV hV0 hq E B hE hB hz hy hx hb1 hb3 hb4
                · rw [if_neg (by omega)]; exact rc_comma_ok1 rb tb ao n cap f a k c p st w h hst hl D V hD hV hV0 hq E B hE hB hz hy hx hb1 hb3 hb4
              · rw [if_neg (by omega)]; exact rc_comma_ok0 rb tb ao n cap f a k c p st w h hst hl D V hD hV hV0 hq E B hE hB hz hy hx hb1 hb3
        · rw [if_pos (.inr (.inl hy)), N]; exact rc_comma_bad rb tb ao n cap f a k c p st w h hst hl D V hD hV hV0 hq E B hE hB hz hy
    · have hq' : hasB f n (a + 1 + D) [44] = false := by simpa using hq
      rw [if_neg (fun z => hq z.2)]
      unfold chk
      by_cases hz : n ≤ a + 1 + D
      · rw [if_pos hz]; exact rc_plain_end rb tb ao n cap f a k c p st w h hst hl D V hD hV hV0 hq' hz
      · rw [if_neg hz]
        by_cases hy : f (a + 1 + D) = 125
        · by_cases hx : 100 < V
          · rw [if_pos (by omega), N]; exact rc_plain_big rb tb ao n cap f a k c p st w h hst hl D V hD hV hV0 hq' hz hy hx
          · rw [if_neg (by omega)]; exact rc_plain_ok rb tb ao n cap f a k c p st w h hst hl D V hD hV hV0 hq' hz hy hx
        · rw [if_pos (.inr (.inl hy)), N]; exact rc_plain_bad rb tb ao n cap f a k c p st w h hst hl D V hD hV hV0 hq' hz hy
  · rw [if_neg (fun z => hV0 z.1)]
    unfold chk
    have hV1 : V < 0 := by omega
    by_cases hz : n ≤ a + 1 + D
    · rw [if_pos hz]; exact rc_neg_end rb tb ao n cap f a k c p st w h hst hl D V hD hV hV1 hz
    · rw [if_neg hz, if_pos (.inl hV1), N]; exact rc_neg_bad rb tb ao n cap f a k c p st w h hst hl D V hD hV hV1 hz
set_option maxHeartbeats 8000000 in
set_option maxRecDepth 100000 in
theorem rrep_star (rb tb : Nat) (ao : Option Addr) (n cap : Nat) (f : Nat → Int) (a k : Nat) (c p : Int) (t : Tk) (st : Nat) (w : World) (h : RT w rb tb ao n cap f a k c p t) (ht : t = ⟨0, 0, 0, 0, [], false, st, 0⟩) (hl : a < n) (hy : f a = 42) :
    Calls Tryz.prog 46 #[.pointer (some ⟨rb, 0, none⟩), .pointer (some ⟨tb, 0, none⟩)] w (REt w rb tb ao n cap f k c p st (rep f n 0 (-1) (a + 1))) := by
  subst ht
  have KY : Hid (f a = 42) := hy
  clear hy
  have S0 := h
  have U0 : T2 rb tb w w := lin.Turns.refl _ w
  have hne : ¬ tb = rb := h.ne
  have hne' : ¬ rb = tb := fun e => h.ne e.symm
  have hn := h.rs.nn
  have ha := h.rs.aa
  have hcc := h.rs.cc
  have hcm := h.rs.cm
  obtain ⟨R, hR⟩ : ∃ R, rep f n 0 (-1) (a + 1) = R := ⟨_, rfl⟩
  rw [hR]
  have HR : Hid (rep f n 0 (-1) (a + 1) = R) := hR
  clear hR
  clear h
  obtain ⟨⟨c0, c1, c2, z1, z2⟩, ⟨k0, k1, k2, k3, k4, k5, k6, k7⟩, ⟨f0, f1, f2, f3, f4, f5, f6, f7⟩⟩ := S0.cells
  go_enter Tryz.func46, Tryz.ntmps46
  have S1 := S0.t0 6
  have U1 := T2.put U0 0 (.int .i64 6)
  clear S0 U0
  have C := rest_lt S1 U1 hl
  go_wp2_with fail
  refine C.mono ?_
  rintro e w2 ⟨gb, go, rfl, cx, hg1, hg2, S2, U2⟩
  clear C S1 U1
  clear c0 c1 c2 z1 z2 k0 k1 k2 k3 k4 k5 k6 k7 f0 f1 f2 f3 f4 f5 f6 f7
  obtain ⟨⟨c0, c1, c2, z1, z2⟩, ⟨k0, k1, k2, k3, k4, k5, k6, k7⟩, ⟨f0, f1, f2, f3, f4, f5, f6, f7⟩⟩ := S2.cells
  rw [KY.out] at cx
  have hz2 : 0 < n - a := by omega
  have hz5 : (0 : Int) < ((n - a : Nat) : Int) := by omega
  have S3 := S2.t2 0
  have U3 := T2.put U2 2 (.int .i64 0)
  clear S2 U2
  have S4 := S3.t3 (-1)
  have U4 := T2.put U3 3 (.int .i64 (-1))
  clear S3 U3
  have S5 := S4.put1 (x := ((a : Nat) : Int) + 1) (a' := a + 1) (by omega) (by omega)
  have U5 := T2.at U4 1 (.int .i64 (((a : Nat) : Int) + 1))
  clear S4 U4
  have C := has_t S5 U5 [63] (by decide) (by decide)
  obtain ⟨b, hq⟩ : ∃ b, hasB f n (a + 1) [63] = b := ⟨_, rfl⟩
  rw [hq] at C
  have Q51 : Hid (hasB f n (a + 1) [63] = b) := hq
  clear hq
  go_wp2_with fail
  refine C.mono ?_
  rintro e w6 ⟨rfl, S6, U6⟩
  clear C S5 U5
  clear c0 c1 c2 z1 z2 k0 k1 k2 k3 k4 k5 k6 k7 f0 f1 f2 f3 f4 f5 f6 f7
  obtain ⟨⟨c0, c1, c2, z1, z2⟩, ⟨k0, k1, k2, k3, k4, k5, k6, k7⟩, ⟨f0, f1, f2, f3, f4, f5, f6, f7⟩⟩ := S6.cells
  cases b with
  | true =>
    have hb3 : a + 1 + 1 ≤ n := by
      have := Q51.out
      simp [hasB, at_] at this
      omega
    have S7 := S6.t1 1
    have U7 := T2.put U6 1 (.int .i64 1)
    clear S6 U6
    have S8 := S7.put1 (x := ((a + 1 : Nat) : Int) + 1) (a' := a + 1 + 1) (by omega) (by omega)
    have U8 := T2.at U7 1 (.int .i64 (((a + 1 : Nat) : Int) + 1))
    clear S7 U7
    obtain rfl : R = .ok (⟨6, 1, 0, -1, [], false, 0, 0⟩) (a + 1 + 1) := by rw [← HR.out]; simp [rep_ref, bind_ok, bind_no, Q51.out]
    clear HR
    go_wp2
    go_ret
    exact ⟨rfl, S8, U8⟩
  | false =>
    have C := has_t S6 U6 [43] (by decide) (by decide)
    obtain ⟨b, hq⟩ : ∃ b, hasB f n (a + 1) [43] = b := ⟨_, rfl⟩
    rw [hq] at C
    have Q62 : Hid (hasB f n (a + 1) [43] = b) := hq
    clear hq
    go_wp2_with fail
    refine C.mono ?_
    rintro e w7 ⟨rfl, S7, U7⟩
    clear C S6 U6
    clear c0 c1 c2 z1 z2 k0 k1 k2 k3 k4 k5 k6 k7 f0 f1 f2 f3 f4 f5 f6 f7
    obtain ⟨⟨c0, c1, c2, z1, z2⟩, ⟨k0, k1, k2, k3, k4, k5, k6, k7⟩, ⟨f0, f1, f2, f3, f4, f5, f6, f7⟩⟩ := S7.cells
    cases b with
    | true =>
      have hb3 : a + 1 + 1 ≤ n := by
        have := Q62.out
        simp [hasB, at_] at this
        omega
      have S8 := S7.t1 2
      have U8 := T2.put U7 1 (.int .i64 2)
      clear S7 U7
      have S9 := S8.put1 (x := ((a + 1 : Nat) : Int) + 1) (a' := a + 1 + 1) (by omega) (by omega)
      have U9 := T2.at U8 1 (.int .i64 (((a + 1 : Nat) : Int) + 1))
      clear S8 U8
      obtain rfl : R = .ok (⟨6, 2, 0, -1, [], false, 0, 0⟩) (a + 1 + 1) := by rw [← HR.out]; simp [rep_ref, bind_ok, bind_no, Q51.out, Q62.out]
      clear HR
      go_wp2
      go_ret
      exact ⟨rfl, S9, U9⟩
    | false =>
      obtain rfl : R = .ok (⟨6, 0, 0, -1, [], false, 0, 0⟩) (a + 1) := by rw [← HR.out]; simp [rep_ref, bind_ok, bind_no, Q51.out, Q62.out]
      clear HR
      go_wp2
      go_ret
      exact ⟨rfl, S7, U7⟩
set_option maxHeartbeats 8000000 in
set_option maxRecDepth 100000 in
theorem rrep_plus (rb tb : Nat) (ao : Option Addr) (n cap : Nat) (f : Nat → Int) (a k : Nat) (c p : Int) (t : Tk) (st : Nat) (w : World) (h : RT w rb tb ao n cap f a k c p t) (ht : t = ⟨0, 0, 0, 0, [], false, st, 0⟩) (hl : a < n) (hy : f a = 43) :
    Calls Tryz.prog 46 #[.pointer (some ⟨rb, 0, none⟩), .pointer (some ⟨tb, 0, none⟩)] w (REt w rb tb ao n cap f k c p st (rep f n 1 (-1) (a + 1))) := by
  subst ht
  have KY : Hid (f a = 43) := hy
  clear hy
  have S0 := h
  have U0 : T2 rb tb w w := lin.Turns.refl _ w
  have hne : ¬ tb = rb := h.ne
  have hne' : ¬ rb = tb := fun e => h.ne e.symm
  have hn := h.rs.nn
  have ha := h.rs.aa
  have hcc := h.rs.cc
  have hcm := h.rs.cm
  obtain ⟨R, hR⟩ : ∃ R, rep f n 1 (-1) (a + 1) = R := ⟨_, rfl⟩
  rw [hR]
  have HR : Hid (rep f n 1 (-1) (a + 1) = R) := hR
  clear hR
  clear h
  obtain ⟨⟨c0, c1, c2, z1, z2⟩, ⟨k0, k1, k2, k3, k4, k5, k6, k7⟩, ⟨f0, f1, f2, f3, f4, f5, f6, f7⟩⟩ := S0.cells
  go_enter Tryz.func46, Tryz.ntmps46
  have S1 := S0.t0 6
  have U1 := T2.put U0 0 (.int .i64 6)
  clear S0 U0
  have C := rest_lt S1 U1 hl
  go_wp2_with fail
  refine C.mono ?_
  rintro e w2 ⟨gb, go, rfl, cx, hg1, hg2, S2, U2⟩
  clear C S1 U1
  clear c0 c1 c2 z1 z2 k0 k1 k2 k3 k4 k5 k6 k7 f0 f1 f2 f3 f4 f5 f6 f7
  obtain ⟨⟨c0, c1, c2, z1, z2⟩, ⟨k0, k1, k2, k3, k4, k5, k6, k7⟩, ⟨f0, f1, f2, f3, f4, f5, f6, f7⟩⟩ := S2.cells
  rw [KY.out] at cx
  have hz2 : 0 < n - a := by omega
  have hz5 : (0 : Int) < ((n - a : Nat) : Int) := by omega
  have S3 := S2.t2 1
  have U3 := T2.put U2 2 (.int .i64 1)
  clear S2 U2
  have S4 := S3.t3 (-1)
  have U4 := T2.put U3 3 (.int .i64 (-1))
  clear S3 U3
  have S5 := S4.put1 (x := ((a : Nat) : Int) + 1) (a' := a + 1) (by omega) (by omega)
  have U5 := T2.at U4 1 (.int .i64 (((a : Nat) : Int) + 1))
  clear S4 U4
  have C := has_t S5 U5 [63] (by decide) (by decide)
  obtain ⟨b, hq⟩ : ∃ b, hasB f n (a + 1) [63] = b := ⟨_, rfl⟩
  rw [hq] at C
  have Q51 : Hid (hasB f n (a + 1) [63] = b) := hq
  clear hq
  go_wp2_with fail
  refine C.mono ?_
  rintro e w6 ⟨rfl, S6, U6⟩
  clear C S5 U5
  clear c0 c1 c2 z1 z2 k0 k1 k2 k3 k4 k5 k6 k7 f0 f1 f2 f3 f4 f5 f6 f7
  obtain ⟨⟨c0, c1, c2, z1, z2⟩, ⟨k0, k1, k2, k3, k4, k5, k6, k7⟩, ⟨f0, f1, f2, f3, f4, f5, f6, f7⟩⟩ := S6.cells
  cases b with
  | true =>
    have hb3 : a + 1 + 1 ≤ n := by
      have := Q51.out
      simp [hasB, at_] at this
      omega
    have S7 := S6.t1 1
    have U7 := T2.put U6 1 (.int .i64 1)
    clear S6 U6
    have S8 := S7.put1 (x := ((a + 1 : Nat) : Int) + 1) (a' := a + 1 + 1) (by omega) (by omega)
    have U8 := T2.at U7 1 (.int .i64 (((a + 1 : Nat) : Int) + 1))
    clear S7 U7
    obtain rfl : R = .ok (⟨6, 1, 1, -1, [], false, 0, 0⟩) (a + 1 + 1) := by rw [← HR.out]; simp [rep_ref, bind_ok, bind_no, Q51.out]
    clear HR
    go_wp2
    go_ret
    exact ⟨rfl, S8, U8⟩
  | false =>
    have C := has_t S6 U6 [43] (by decide) (by decide)
    obtain ⟨b, hq⟩ : ∃ b, hasB f n (a + 1) [43] = b := ⟨_, rfl⟩
    rw [hq] at C
    have Q62 : Hid (hasB f n (a + 1) [43] = b) := hq
    clear hq
    go_wp2_with fail
    refine C.mono ?_
    rintro e w7 ⟨rfl, S7, U7⟩
    clear C S6 U6
    clear c0 c1 c2 z1 z2 k0 k1 k2 k3 k4 k5 k6 k7 f0 f1 f2 f3 f4 f5 f6 f7
    obtain ⟨⟨c0, c1, c2, z1, z2⟩, ⟨k0, k1, k2, k3, k4, k5, k6, k7⟩, ⟨f0, f1, f2, f3, f4, f5, f6, f7⟩⟩ := S7.cells
    cases b with
    | true =>
      have hb3 : a + 1 + 1 ≤ n := by
        have := Q62.out
        simp [hasB, at_] at this
        omega
      have S8 := S7.t1 2
      have U8 := T2.put U7 1 (.int .i64 2)
      clear S7 U7
      have S9 := S8.put1 (x := ((a + 1 : Nat) : Int) + 1) (a' := a + 1 + 1) (by omega) (by omega)
      have U9 := T2.at U8 1 (.int .i64 (((a + 1 : Nat) : Int) + 1))
      clear S8 U8
      obtain rfl : R = .ok (⟨6, 2, 1, -1, [], false, 0, 0⟩) (a + 1 + 1) := by rw [← HR.out]; simp [rep_ref, bind_ok, bind_no, Q51.out, Q62.out]
      clear HR
      go_wp2
      go_ret
      exact ⟨rfl, S9, U9⟩
    | false =>
      obtain rfl : R = .ok (⟨6, 0, 1, -1, [], false, 0, 0⟩) (a + 1) := by rw [← HR.out]; simp [rep_ref, bind_ok, bind_no, Q51.out, Q62.out]
      clear HR
      go_wp2
      go_ret
      exact ⟨rfl, S7, U7⟩
set_option maxHeartbeats 8000000 in
set_option maxRecDepth 100000 in
theorem rrep_ask (rb tb : Nat) (ao : Option Addr) (n cap : Nat) (f : Nat → Int) (a k : Nat) (c p : Int) (t : Tk) (st : Nat) (w : World) (h : RT w rb tb ao n cap f a k c p t) (ht : t = ⟨0, 0, 0, 0, [], false, st, 0⟩) (hl : a < n) (hy : f a = 63) :
    Calls Tryz.prog 46 #[.pointer (some ⟨rb, 0, none⟩), .pointer (some ⟨tb, 0, none⟩)] w (REt w rb tb ao n cap f k c p st (rep f n 0 (1) (a + 1))) := by
  subst ht
  have KY : Hid (f a = 63) := hy
  clear hy
  have S0 := h
  have U0 : T2 rb tb w w := lin.Turns.refl _ w
  have hne : ¬ tb = rb := h.ne
  have hne' : ¬ rb = tb := fun e => h.ne e.symm
  have hn := h.rs.nn
  have ha := h.rs.aa
  have hcc := h.rs.cc
  have hcm := h.rs.cm
  obtain ⟨R, hR⟩ : ∃ R, rep f n 0 (1) (a + 1) = R := ⟨_, rfl⟩
  rw [hR]
  have HR : Hid (rep f n 0 (1) (a + 1) = R) := hR
  clear hR
  clear h
  obtain ⟨⟨c0, c1, c2, z1, z2⟩, ⟨k0, k1, k2, k3, k4, k5, k6, k7⟩, ⟨f0, f1, f2, f3, f4, f5, f6, f7⟩⟩ := S0.cells
  go_enter Tryz.func46, Tryz.ntmps46
  have S1 := S0.t0 6
  have U1 := T2.put U0 0 (.int .i64 6)
  clear S0 U0
  have C := rest_lt S1 U1 hl
  go_wp2_with fail
  refine C.mono ?_
  rintro e w2 ⟨gb, go, rfl, cx, hg1, hg2, S2, U2⟩
  clear C S1 U1
  clear c0 c1 c2 z1 z2 k0 k1 k2 k3 k4 k5 k6 k7 f0 f1 f2 f3 f4 f5 f6 f7
  obtain ⟨⟨c0, c1, c2, z1, z2⟩, ⟨k0, k1, k2, k3, k4, k5, k6, k7⟩, ⟨f0, f1, f2, f3, f4, f5, f6, f7⟩⟩ := S2.cells
  rw [KY.out] at cx
  have hz2 : 0 < n - a := by omega
  have hz5 : (0 : Int) < ((n - a : Nat) : Int) := by omega
  have S3 := S2.t2 0
  have U3 := T2.put U2 2 (.int .i64 0)
  clear S2 U2
  have S4 := S3.t3 (1)
  have U4 := T2.put U3 3 (.int .i64 (1))
  clear S3 U3
  have S5 := S4.put1 (x := ((a : Nat) : Int) + 1) (a' := a + 1) (by omega) (by omega)
  have U5 := T2.at U4 1 (.int .i64 (((a : Nat) : Int) + 1))
  clear S4 U4
  have C := has_t S5 U5 [63] (by decide) (by decide)
  obtain ⟨b, hq⟩ : ∃ b, hasB f n (a + 1) [63] = b := ⟨_, rfl⟩
  rw [hq] at C
  have Q51 : Hid (hasB f n (a + 1) [63] = b) := hq
  clear hq
  go_wp2_with fail
  refine C.mono ?_
  rintro e w6 ⟨rfl, S6, U6⟩
  clear C S5 U5
  clear c0 c1 c2 z1 z2 k0 k1 k2 k3 k4 k5 k6 k7 f0 f1 f2 f3 f4 f5 f6 f7
  obtain ⟨⟨c0, c1, c2, z1, z2⟩, ⟨k0, k1, k2, k3, k4, k5, k6, k7⟩, ⟨f0, f1, f2, f3, f4, f5, f6, f7⟩⟩ := S6.cells
  cases b with
  | true =>
    have hb3 : a + 1 + 1 ≤ n := by
      have := Q51.out
      simp [hasB, at_] at this
      omega
    have S7 := S6.t1 1
    have U7 := T2.put U6 1 (.int .i64 1)
    clear S6 U6
    have S8 := S7.put1 (x := ((a + 1 : Nat) : Int) + 1) (a' := a + 1 + 1) (by omega) (by omega)
    have U8 := T2.at U7 1 (.int .i64 (((a + 1 : Nat) : Int) + 1))
    clear S7 U7
    obtain rfl : R = .ok (⟨6, 1, 0, 1, [], false, 0, 0⟩) (a + 1 + 1) := by rw [← HR.out]; simp [rep_ref, bind_ok, bind_no, Q51.out]
    clear HR
    go_wp2
    go_ret
    exact ⟨rfl, S8, U8⟩
  | false =>
    have C := has_t S6 U6 [43] (by decide) (by decide)
    obtain ⟨b, hq⟩ : ∃ b, hasB f n (a + 1) [43] = b := ⟨_, rfl⟩
    rw [hq] at C
    have Q62 : Hid (hasB f n (a + 1) [43] = b) := hq
    clear hq
    go_wp2_with fail
    refine C.mono ?_
    rintro e w7 ⟨rfl, S7, U7⟩
    clear C S6 U6
    clear c0 c1 c2 z1 z2 k0 k1 k2 k3 k4 k5 k6 k7 f0 f1 f2 f3 f4 f5 f6 f7
    obtain ⟨⟨c0, c1, c2, z1, z2⟩, ⟨k0, k1, k2, k3, k4, k5, k6, k7⟩, ⟨f0, f1, f2, f3, f4, f5, f6, f7⟩⟩ := S7.cells
    cases b with
    | true =>
      have hb3 : a + 1 + 1 ≤ n := by
        have := Q62.out
        simp [hasB, at_] at this
        omega
      have S8 := S7.t1 2
      have U8 := T2.put U7 1 (.int .i64 2)
      clear S7 U7
      have S9 := S8.put1 (x := ((a + 1 : Nat) : Int) + 1) (a' := a + 1 + 1) (by omega) (by omega)
      have U9 := T2.at U8 1 (.int .i64 (((a + 1 : Nat) : Int) + 1))
      clear S8 U8
      obtain rfl : R = .ok (⟨6, 2, 0, 1, [], false, 0, 0⟩) (a + 1 + 1) := by rw [← HR.out]; simp [rep_ref, bind_ok, bind_no, Q51.out, Q62.out]
      clear HR
      go_wp2
      go_ret
      exact ⟨rfl, S9, U9⟩
    | false =>
      obtain rfl : R = .ok (⟨6, 0, 0, 1, [], false, 0, 0⟩) (a + 1) := by rw [← HR.out]; simp [rep_ref, bind_ok, bind_no, Q51.out, Q62.out]
      clear HR
      go_wp2
      go_ret
      exact ⟨rfl, S7, U7⟩
set_option maxHeartbeats 8000000 in
set_option maxRecDepth 100000 in
theorem rrep_counts (rb tb : Nat) (ao : Option Addr) (n cap : Nat) (f : Nat → Int) (a k : Nat) (c p : Int) (t : Tk) (st : Nat) (w : World) (h : RT w rb tb ao n cap f a k c p t) (ht : t = ⟨0, 0, 0, 0, [], false, st, 0⟩) (hst : noneC f st = 150) (hl : a < n) (hy : f a = 123) :
    Calls Tryz.prog 46 #[.pointer (some ⟨rb, 0, none⟩), .pointer (some ⟨tb, 0, none⟩)] w (REt w rb tb ao n cap f k c p st (((countsR f n st (a + 1)).bind fun q a => rep f n q.1 q.2 a))) := by
  subst ht
  have KY : Hid (f a = 123) := hy
  clear hy
  have S0 := h
  have U0 : T2 rb tb w w := lin.Turns.refl _ w
  have hne : ¬ tb = rb := h.ne
  have hne' : ¬ rb = tb := fun e => h.ne e.symm
  have hn := h.rs.nn
  have ha := h.rs.aa
  have hcc := h.rs.cc
  have hcm := h.rs.cm
  obtain ⟨R, hR⟩ : ∃ R, ((countsR f n st (a + 1)).bind fun q a => rep f n q.1 q.2 a) = R := ⟨_, rfl⟩
  rw [hR]
  have HR : Hid (((countsR f n st (a + 1)).bind fun q a => rep f n q.1 q.2 a) = R) := hR
  clear hR
  clear h
  obtain ⟨⟨c0, c1, c2, z1, z2⟩, ⟨k0, k1, k2, k3, k4, k5, k6, k7⟩, ⟨f0, f1, f2, f3, f4, f5, f6, f7⟩⟩ := S0.cells
  go_enter Tryz.func46, Tryz.ntmps46
  have S1 := S0.t0 6
  have U1 := T2.put U0 0 (.int .i64 6)
  clear S0 U0
  have C := rest_lt S1 U1 hl
  go_wp2_with fail
  refine C.mono ?_
  rintro e w2 ⟨gb, go, rfl, cx, hg1, hg2, S2, U2⟩
  clear C S1 U1
  clear c0 c1 c2 z1 z2 k0 k1 k2 k3 k4 k5 k6 k7 f0 f1 f2 f3 f4 f5 f6 f7
  obtain ⟨⟨c0, c1, c2, z1, z2⟩, ⟨k0, k1, k2, k3, k4, k5, k6, k7⟩, ⟨f0, f1, f2, f3, f4, f5, f6, f7⟩⟩ := S2.cells
  rw [KY.out] at cx
  have hz2 : 0 < n - a := by omega
  have hz5 : (0 : Int) < ((n - a : Nat) : Int) := by omega
  have C := rcounts rb tb ao n cap f a k c p _ st w2 S2 rfl hst hl
  obtain ⟨o, ho⟩ : ∃ o, countsR f n st (a + 1) = o := ⟨_, rfl⟩
  rw [ho] at C
  have KO : Hid (countsR f n st (a + 1) = o) := ho
  clear ho
  go_wp2_with fail
  refine C.mono ?_
  clear C
  cases o with
  | ok q a1 =>
    obtain ⟨x, y⟩ := q
    rintro e w3 ⟨rfl, S3, V3⟩
    have U3 := lin.Turns.trans U2 V3
    clear S2 U2 V3
    dsimp only at S3
    clear c0 c1 c2 z1 z2 k0 k1 k2 k3 k4 k5 k6 k7 f0 f1 f2 f3 f4 f5 f6 f7
    obtain ⟨⟨c0, c1, c2, z1, z2⟩, ⟨k0, k1, k2, k3, k4, k5, k6, k7⟩, ⟨f0, f1, f2, f3, f4, f5, f6, f7⟩⟩ := S3.cells
    have ha1 := S3.rs.aa
    have C := has_t S3 U3 [63] (by decide) (by decide)
    obtain ⟨b, hq⟩ : ∃ b, hasB f n (a1) [63] = b := ⟨_, rfl⟩
    rw [hq] at C
    have Q31 : Hid (hasB f n (a1) [63] = b) := hq
    clear hq
    go_wp2_with fail
    refine C.mono ?_
    rintro e w4 ⟨rfl, S4, U4⟩
    clear C S3 U3
    clear c0 c1 c2 z1 z2 k0 k1 k2 k3 k4 k5 k6 k7 f0 f1 f2 f3 f4 f5 f6 f7
    obtain ⟨⟨c0, c1, c2, z1, z2⟩, ⟨k0, k1, k2, k3, k4, k5, k6, k7⟩, ⟨f0, f1, f2, f3, f4, f5, f6, f7⟩⟩ := S4.cells
    cases b with
    | true =>
      have hb3 : a1 + 1 ≤ n := by
        have := Q31.out
        simp [hasB, at_] at this
        omega
      have S5 := S4.t1 1
      have U5 := T2.put U4 1 (.int .i64 1)
      clear S4 U4
      have S6 := S5.put1 (x := ((a1 : Nat) : Int) + 1) (a' := a1 + 1) (by omega) (by omega)
      have U6 := T2.at U5 1 (.int .i64 (((a1 : Nat) : Int) + 1))
      clear S5 U5
      obtain rfl : R = .ok (⟨6, 1, x, y, [], false, 0, 0⟩) (a1 + 1) := by rw [← HR.out]; simp [rep_ref, bind_ok, bind_no, KO.out, Q31.out]
      clear HR
      go_wp2
      go_ret
      exact ⟨rfl, S6, U6⟩
    | false =>
      have C := has_t S4 U4 [43] (by decide) (by decide)
      obtain ⟨b, hq⟩ : ∃ b, hasB f n (a1) [43] = b := ⟨_, rfl⟩
      rw [hq] at C
      have Q42 : Hid (hasB f n (a1) [43] = b) := hq
      clear hq
      go_wp2_with fail
      refine C.mono ?_
      rintro e w5 ⟨rfl, S5, U5⟩
      clear C S4 U4
      clear c0 c1 c2 z1 z2 k0 k1 k2 k3 k4 k5 k6 k7 f0 f1 f2 f3 f4 f5 f6 f7
      obtain ⟨⟨c0, c1, c2, z1, z2⟩, ⟨k0, k1, k2, k3, k4, k5, k6, k7⟩, ⟨f0, f1, f2, f3, f4, f5, f6, f7⟩⟩ := S5.cells
      cases b with
      | true =>
        have hb3 : a1 + 1 ≤ n := by
          have := Q42.out
          simp [hasB, at_] at this
          omega
        have S6 := S5.t1 2
        have U6 := T2.put U5 1 (.int .i64 2)
        clear S5 U5
        have S7 := S6.put1 (x := ((a1 : Nat) : Int) + 1) (a' := a1 + 1) (by omega) (by omega)
        have U7 := T2.at U6 1 (.int .i64 (((a1 : Nat) : Int) + 1))
        clear S6 U6
        obtain rfl : R = .ok (⟨6, 2, x, y, [], false, 0, 0⟩) (a1 + 1) := by rw [← HR.out]; simp [rep_ref, bind_ok, bind_no, KO.out, Q31.out, Q42.out]
        clear HR
        go_wp2
        go_ret
        exact ⟨rfl, S7, U7⟩
      | false =>
        obtain rfl : R = .ok (⟨6, 0, x, y, [], false, 0, 0⟩) (a1) := by rw [← HR.out]; simp [rep_ref, bind_ok, bind_no, KO.out, Q31.out, Q42.out]
        clear HR
        go_wp2
        go_ret
        exact ⟨rfl, S5, U5⟩
  | no cc1 pp1 =>
    rintro e w3 ⟨rfl, ⟨a1, t1, S3⟩, V3⟩
    have U3 := lin.Turns.trans U2 V3
    clear S2 U2 V3
    clear c0 c1 c2 z1 z2 k0 k1 k2 k3 k4 k5 k6 k7 f0 f1 f2 f3 f4 f5 f6 f7
    obtain rfl : R = .no cc1 pp1 := by rw [← HR.out]; simp [rep_ref, bind_ok, bind_no, KO.out]
    clear HR
    go_wp2
    go_ret
    exact ⟨rfl, ⟨_, _, S3⟩, U3⟩
end Go.Proofs.YtlgkfnecahgedaaGreatDoor.tok
end

section
/- The document's \\k{N}. -/
set_option linter.unusedVariables false
set_option linter.unusedSimpArgs false
namespace Go.Proofs.YtlgkfnecahgedaaGreatDoor.tok
open Go.RowKit
open lin (BA Turns)

set_option maxHeartbeats 4000000 in
set_option maxRecDepth 100000 in
theorem rbk_end0 (rb tb : Nat) (ao : Option Addr) (n cap : Nat) (f : Nat → Int) (a k : Nat) (c p : Int) (st : Nat) (w : World) (h : RT w rb tb ao n cap f a k c p ⟨0, 0, 0, 0, [], false, st, 0⟩) (hz0 : n ≤ a) :
    Calls Tryz.prog 89 #[.pointer (some ⟨rb, 0, none⟩), .pointer (some ⟨tb, 0, none⟩)] w (REt w rb tb ao n cap f k c p st (.no 130 n)) := by
  have S0 := h
  have U0 : T2 rb tb w w := lin.Turns.refl _ w
  have hne : ¬ tb = rb := h.ne
  have hne' : ¬ rb = tb := fun e => h.ne e.symm
  have hn := h.rs.nn
  have ha := h.rs.aa
  have hcc := h.rs.cc
  have hcm := h.rs.cm
  clear h
  obtain ⟨⟨c0, c1, c2, z1, z2⟩, ⟨k0, k1, k2, k3, k4, k5, k6, k7⟩, ⟨f0, f1, f2, f3, f4, f5, f6, f7⟩⟩ := S0.cells
  go_enter Tryz.func89, Tryz.ntmps89
  have S1 := S0.t0 9
  have U1 := T2.put U0 0 (.int .i64 9)
  clear S0 U0
  have hz2 : n - (a) = 0 := by omega
  have C := rest_t S1 U1
  go_wp2_with fail
  refine C.mono ?_
  rintro e w2 ⟨rfl, S2, U2⟩
  clear C S1 U1
  clear c0 c1 c2 z1 z2 k0 k1 k2 k3 k4 k5 k6 k7 f0 f1 f2 f3 f4 f5 f6 f7
  obtain ⟨⟨c0, c1, c2, z1, z2⟩, ⟨k0, k1, k2, k3, k4, k5, k6, k7⟩, ⟨f0, f1, f2, f3, f4, f5, f6, f7⟩⟩ := S2.cells
  rw [hz2]
  have C := fail_t S2 U2 130 n
  go_wp2_with fail
  refine C.mono ?_
  rintro e w9 ⟨rfl, S9, U9⟩
  clear C
  go_wp2
  go_ret
  exact ⟨rfl, ⟨_, _, S9⟩, U9⟩
set_option maxHeartbeats 4000000 in
set_option maxRecDepth 100000 in
theorem rbk_other (rb tb : Nat) (ao : Option Addr) (n cap : Nat) (f : Nat → Int) (a k : Nat) (c p : Int) (st : Nat) (w : World) (h : RT w rb tb ao n cap f a k c p ⟨0, 0, 0, 0, [], false, st, 0⟩) (hl : a < n) (hq : hasB f n a [60] = false) (hq2 : hasB f n a [123] = false) :
    Calls Tryz.prog 89 #[.pointer (some ⟨rb, 0, none⟩), .pointer (some ⟨tb, 0, none⟩)] w (REt w rb tb ao n cap f k c p st (.no 132 st)) := by
  have KQ : Hid (hasB f n a [60] = false) := hq
  have KQ2 : Hid (hasB f n a [123] = false) := hq2
  clear hq hq2
  have S0 := h
  have U0 : T2 rb tb w w := lin.Turns.refl _ w
  have hne : ¬ tb = rb := h.ne
  have hne' : ¬ rb = tb := fun e => h.ne e.symm
  have hn := h.rs.nn
  have ha := h.rs.aa
  have hcc := h.rs.cc
  have hcm := h.rs.cm
  clear h
  obtain ⟨⟨c0, c1, c2, z1, z2⟩, ⟨k0, k1, k2, k3, k4, k5, k6, k7⟩, ⟨f0, f1, f2, f3, f4, f5, f6, f7⟩⟩ := S0.cells
  go_enter Tryz.func89, Tryz.ntmps89
  have S1 := S0.t0 9
  have U1 := T2.put U0 0 (.int .i64 9)
  clear S0 U0
  skip
  have hz2 : 0 < n - (a) := by omega
  have hz3 : ¬ n - (a) = 0 := by omega
  have hz4 : (((n - (a) : Nat) : Int) == 0) = false := by simp; omega
  have hz5 : (0 : Int) < ((n - (a) : Nat) : Int) := by omega
  have C := rest_t S1 U1
  go_wp2_with fail
  refine C.mono ?_
  rintro e w2 ⟨rfl, S2, U2⟩
  clear C S1 U1
  clear c0 c1 c2 z1 z2 k0 k1 k2 k3 k4 k5 k6 k7 f0 f1 f2 f3 f4 f5 f6 f7
  obtain ⟨⟨c0, c1, c2, z1, z2⟩, ⟨k0, k1, k2, k3, k4, k5, k6, k7⟩, ⟨f0, f1, f2, f3, f4, f5, f6, f7⟩⟩ := S2.cells
  have C := has_t S2 U2 [60] (by decide) (by decide)
  rw [KQ.out] at C
  go_wp2_with fail
  refine C.mono ?_
  rintro e w3 ⟨rfl, S3, U3⟩
  clear C S2 U2
  clear c0 c1 c2 z1 z2 k0 k1 k2 k3 k4 k5 k6 k7 f0 f1 f2 f3 f4 f5 f6 f7
  obtain ⟨⟨c0, c1, c2, z1, z2⟩, ⟨k0, k1, k2, k3, k4, k5, k6, k7⟩, ⟨f0, f1, f2, f3, f4, f5, f6, f7⟩⟩ := S3.cells
  have C := has_t S3 U3 [123] (by decide) (by decide)
  rw [KQ2.out] at C
  go_wp2_with fail
  refine C.mono ?_
  rintro e w4 ⟨rfl, S4, U4⟩
  clear C S3 U3
  clear c0 c1 c2 z1 z2 k0 k1 k2 k3 k4 k5 k6 k7 f0 f1 f2 f3 f4 f5 f6 f7
  obtain ⟨⟨c0, c1, c2, z1, z2⟩, ⟨k0, k1, k2, k3, k4, k5, k6, k7⟩, ⟨f0, f1, f2, f3, f4, f5, f6, f7⟩⟩ := S4.cells
  have C := fail_t S4 U4 132 st
  go_wp2_with fail
  refine C.mono ?_
  rintro e w9 ⟨rfl, S9, U9⟩
  clear C
  go_wp2
  go_ret
  exact ⟨rfl, ⟨_, _, S9⟩, U9⟩
set_option maxHeartbeats 4000000 in
set_option maxRecDepth 100000 in
theorem rbk_end (rb tb : Nat) (ao : Option Addr) (n cap : Nat) (f : Nat → Int) (a k : Nat) (c p : Int) (st : Nat) (w : World) (h : RT w rb tb ao n cap f a k c p ⟨0, 0, 0, 0, [], false, st, 0⟩) (hl : a < n) (hq : hasB f n a [60] = false) (hq2 : hasB f n a [123] = true) (D : Nat) (V : Int) (hD : cntD digitB f n 2 (a + 1) = D) (hV : numV f n 2 (a + 1) = V) (hz : n ≤ a + 1 + D) :
    Calls Tryz.prog 89 #[.pointer (some ⟨rb, 0, none⟩), .pointer (some ⟨tb, 0, none⟩)] w (REt w rb tb ao n cap f k c p st (.no 130 n)) := by
  have hvv := numV_neg f n 2 (a + 1) h.rs.ff (by decide)
  have hd := (cntD_le digitB f n 2 (a + 1)).2 hl
  rw [hD] at hd
  rw [hV] at hvv
  obtain ⟨-, hv1, hv2⟩ := hvv
  have KD : Hid (cntD digitB f n 2 (a + 1) = D) := hD
  have KV : Hid (numV f n 2 (a + 1) = V) := hV
  clear hD hV
  have KQ : Hid (hasB f n a [60] = false) := hq
  have KQ2 : Hid (hasB f n a [123] = true) := hq2
  clear hq hq2
  have S0 := h
  have U0 : T2 rb tb w w := lin.Turns.refl _ w
  have hne : ¬ tb = rb := h.ne
  have hne' : ¬ rb = tb := fun e => h.ne e.symm
  have hn := h.rs.nn
  have ha := h.rs.aa
  have hcc := h.rs.cc
  have hcm := h.rs.cm
  clear h
  obtain ⟨⟨c0, c1, c2, z1, z2⟩, ⟨k0, k1, k2, k3, k4, k5, k6, k7⟩, ⟨f0, f1, f2, f3, f4, f5, f6, f7⟩⟩ := S0.cells
  go_enter Tryz.func89, Tryz.ntmps89
  have S1 := S0.t0 9
  have U1 := T2.put U0 0 (.int .i64 9)
  clear S0 U0
  skip
  have hz2 : 0 < n - (a) := by omega
  have hz3 : ¬ n - (a) = 0 := by omega
  have hz4 : (((n - (a) : Nat) : Int) == 0) = false := by simp; omega
  have hz5 : (0 : Int) < ((n - (a) : Nat) : Int) := by omega
  have C := rest_t S1 U1
  go_wp2_with fail
  refine C.mono ?_
  rintro e w2 ⟨rfl, S2, U2⟩
  clear C S1 U1
  clear c0 c1 c2 z1 z2 k0 k1 k2 k3 k4 k5 k6 k7 f0 f1 f2 f3 f4 f5 f6 f7
  obtain ⟨⟨c0, c1, c2, z1, z2⟩, ⟨k0, k1, k2, k3, k4, k5, k6, k7⟩, ⟨f0, f1, f2, f3, f4, f5, f6, f7⟩⟩ := S2.cells
  have C := has_t S2 U2 [60] (by decide) (by decide)
  rw [KQ.out] at C
  go_wp2_with fail
  refine C.mono ?_
  rintro e w3 ⟨rfl, S3, U3⟩
  clear C S2 U2
  clear c0 c1 c2 z1 z2 k0 k1 k2 k3 k4 k5 k6 k7 f0 f1 f2 f3 f4 f5 f6 f7
  obtain ⟨⟨c0, c1, c2, z1, z2⟩, ⟨k0, k1, k2, k3, k4, k5, k6, k7⟩, ⟨f0, f1, f2, f3, f4, f5, f6, f7⟩⟩ := S3.cells
  have C := has_t S3 U3 [123] (by decide) (by decide)
  rw [KQ2.out] at C
  go_wp2_with fail
  refine C.mono ?_
  rintro e w4 ⟨rfl, S4, U4⟩
  clear C S3 U3
  clear c0 c1 c2 z1 z2 k0 k1 k2 k3 k4 k5 k6 k7 f0 f1 f2 f3 f4 f5 f6 f7
  obtain ⟨⟨c0, c1, c2, z1, z2⟩, ⟨k0, k1, k2, k3, k4, k5, k6, k7⟩, ⟨f0, f1, f2, f3, f4, f5, f6, f7⟩⟩ := S4.cells
  have S5 := S4.put1 (x := ((a : Nat) : Int) + 1) (a' := a + 1) (by omega) (by omega)
  have U5 := T2.at U4 1 (.int .i64 (((a : Nat) : Int) + 1))
  clear S4 U4
  have C := number_t S5 U5 2 (by decide)
  go_wp2_with fail
  refine C.mono ?_
  rintro e w6 ⟨rfl, S6, U6⟩
  clear C S5 U5
  clear c0 c1 c2 z1 z2 k0 k1 k2 k3 k4 k5 k6 k7 f0 f1 f2 f3 f4 f5 f6 f7
  obtain ⟨⟨c0, c1, c2, z1, z2⟩, ⟨k0, k1, k2, k3, k4, k5, k6, k7⟩, ⟨f0, f1, f2, f3, f4, f5, f6, f7⟩⟩ := S6.cells
  rw [KD.out] at S6
  rw [KV.out]
  clear c0 c1 c2 z1 z2 k0 k1 k2 k3 k4 k5 k6 k7 f0 f1 f2 f3 f4 f5 f6 f7
  obtain ⟨⟨c0, c1, c2, z1, z2⟩, ⟨k0, k1, k2, k3, k4, k5, k6, k7⟩, ⟨f0, f1, f2, f3, f4, f5, f6, f7⟩⟩ := S6.cells
  have S7 := S6.t2 V
  have U7 := T2.put U6 2 (.int .i64 V)
  clear S6 U6
  clear hz2 hz3 hz4 hz5
  have hz2 : n - (a + 1 + D) = 0 := by omega
  have C := rest_t S7 U7
  go_wp2_with fail
  refine C.mono ?_
  rintro e w8 ⟨rfl, S8, U8⟩
  clear C S7 U7
  clear c0 c1 c2 z1 z2 k0 k1 k2 k3 k4 k5 k6 k7 f0 f1 f2 f3 f4 f5 f6 f7
  obtain ⟨⟨c0, c1, c2, z1, z2⟩, ⟨k0, k1, k2, k3, k4, k5, k6, k7⟩, ⟨f0, f1, f2, f3, f4, f5, f6, f7⟩⟩ := S8.cells
  rw [hz2]
  have C := fail_t S8 U8 130 n
  go_wp2_with fail
  refine C.mono ?_
  rintro e w9 ⟨rfl, S9, U9⟩
  clear C
  go_wp2
  go_ret
  exact ⟨rfl, ⟨_, _, S9⟩, U9⟩
set_option maxHeartbeats 4000000 in
set_option maxRecDepth 100000 in
theorem rbk_low (rb tb : Nat) (ao : Option Addr) (n cap : Nat) (f : Nat → Int) (a k : Nat) (c p : Int) (st : Nat) (w : World) (h : RT w rb tb ao n cap f a k c p ⟨0, 0, 0, 0, [], false, st, 0⟩) (hl : a < n) (hq : hasB f n a [60] = false) (hq2 : hasB f n a [123] = true) (D : Nat) (V : Int) (hD : cntD digitB f n 2 (a + 1) = D) (hV : numV f n 2 (a + 1) = V) (hz : ¬ n ≤ a + 1 + D) (hv : V < 1) :
    Calls Tryz.prog 89 #[.pointer (some ⟨rb, 0, none⟩), .pointer (some ⟨tb, 0, none⟩)] w (REt w rb tb ao n cap f k c p st (.no 132 st)) := by
  have hvv := numV_neg f n 2 (a + 1) h.rs.ff (by decide)
  have hd := (cntD_le digitB f n 2 (a + 1)).2 hl
  rw [hD] at hd
  rw [hV] at hvv
  obtain ⟨-, hv1, hv2⟩ := hvv
  have KD : Hid (cntD digitB f n 2 (a + 1) = D) := hD
  have KV : Hid (numV f n 2 (a + 1) = V) := hV
  clear hD hV
  have KQ : Hid (hasB f n a [60] = false) := hq
  have KQ2 : Hid (hasB f n a [123] = true) := hq2
  clear hq hq2
  have S0 := h
  have U0 : T2 rb tb w w := lin.Turns.refl _ w
  have hne : ¬ tb = rb := h.ne
  have hne' : ¬ rb = tb := fun e => h.ne e.symm
  have hn := h.rs.nn
  have ha := h.rs.aa
  have hcc := h.rs.cc
  have hcm := h.rs.cm
  clear h
  obtain ⟨⟨c0, c1, c2, z1, z2⟩, ⟨k0, k1, k2, k3, k4, k5, k6, k7⟩, ⟨f0, f1, f2, f3, f4, f5, f6, f7⟩⟩ := S0.cells
  go_enter Tryz.func89, Tryz.ntmps89
  have S1 := S0.t0 9
  have U1 := T2.put U0 0 (.int .i64 9)
  clear S0 U0
  skip
  have hz2 : 0 < n - (a) := by omega
  have hz3 : ¬ n - (a) = 0 := by omega
  have hz4 : (((n - (a) : Nat) : Int) == 0) = false := by simp; omega
  have hz5 : (0 : Int) < ((n - (a) : Nat) : Int) := by omega
  have C := rest_t S1 U1
  go_wp2_with fail
  refine C.mono ?_
  rintro e w2 ⟨rfl, S2, U2⟩
  clear C S1 U1
  clear c0 c1 c2 z1 z2 k0 k1 k2 k3 k4 k5 k6 k7 f0 f1 f2 f3 f4 f5 f6 f7
  obtain ⟨⟨c0, c1, c2, z1, z2⟩, ⟨k0, k1, k2, k3, k4, k5, k6, k7⟩, ⟨f0, f1, f2, f3, f4, f5, f6, f7⟩⟩ := S2.cells
  have C := has_t S2 U2 [60] (by decide) (by decide)
  rw [KQ.out] at C
  go_wp2_with fail
  refine C.mono ?_
  rintro e w3 ⟨rfl, S3, U3⟩
  clear C S2 U2
  clear c0 c1 c2 z1 z2 k0 k1 k2 k3 k4 k5 k6 k7 f0 f1 f2 f3 f4 f5 f6 f7
  obtain ⟨⟨c0, c1, c2, z1, z2⟩, ⟨k0, k1, k2, k3, k4, k5, k6, k7⟩, ⟨f0, f1, f2, f3, f4, f5, f6, f7⟩⟩ := S3.cells
  have C := has_t S3 U3 [123] (by decide) (by decide)
  rw [KQ2.out] at C
  go_wp2_with fail
  refine C.mono ?_
  rintro e w4 ⟨rfl, S4, U4⟩
  clear C S3 U3
  clear c0 c1 c2 z1 z2 k0 k1 k2 k3 k4 k5 k6 k7 f0 f1 f2 f3 f4 f5 f6 f7
  obtain ⟨⟨c0, c1, c2, z1, z2⟩, ⟨k0, k1, k2, k3, k4, k5, k6, k7⟩, ⟨f0, f1, f2, f3, f4, f5, f6, f7⟩⟩ := S4.cells
  have S5 := S4.put1 (x := ((a : Nat) : Int) + 1) (a' := a + 1) (by omega) (by omega)
  have U5 := T2.at U4 1 (.int .i64 (((a : Nat) : Int) + 1))
  clear S4 U4
  have C := number_t S5 U5 2 (by decide)
  go_wp2_with fail
  refine C.mono ?_
  rintro e w6 ⟨rfl, S6, U6⟩
  clear C S5 U5
  clear c0 c1 c2 z1 z2 k0 k1 k2 k3 k4 k5 k6 k7 f0 f1 f2 f3 f4 f5 f6 f7
  obtain ⟨⟨c0, c1, c2, z1, z2⟩, ⟨k0, k1, k2, k3, k4, k5, k6, k7⟩, ⟨f0, f1, f2, f3, f4, f5, f6, f7⟩⟩ := S6.cells
  rw [KD.out] at S6
  rw [KV.out]
  clear c0 c1 c2 z1 z2 k0 k1 k2 k3 k4 k5 k6 k7 f0 f1 f2 f3 f4 f5 f6 f7
  obtain ⟨⟨c0, c1, c2, z1, z2⟩, ⟨k0, k1, k2, k3, k4, k5, k6, k7⟩, ⟨f0, f1, f2, f3, f4, f5, f6, f7⟩⟩ := S6.cells
  have S7 := S6.t2 V
  have U7 := T2.put U6 2 (.int .i64 V)
  clear S6 U6
  clear hz2 hz3 hz4 hz5
  have hz2 : 0 < n - (a + 1 + D) := by omega
  have hz3 : ¬ n - (a + 1 + D) = 0 := by omega
  have hz4 : (((n - (a + 1 + D) : Nat) : Int) == 0) = false := by simp; omega
  have hz5 : (0 : Int) < ((n - (a + 1 + D) : Nat) : Int) := by omega
  have C := rest_t S7 U7
  go_wp2_with fail
  refine C.mono ?_
  rintro e w8 ⟨rfl, S8, U8⟩
  clear C S7 U7
  clear c0 c1 c2 z1 z2 k0 k1 k2 k3 k4 k5 k6 k7 f0 f1 f2 f3 f4 f5 f6 f7
  obtain ⟨⟨c0, c1, c2, z1, z2⟩, ⟨k0, k1, k2, k3, k4, k5, k6, k7⟩, ⟨f0, f1, f2, f3, f4, f5, f6, f7⟩⟩ := S8.cells
  have hv5 : decide (V < 1) = true := by simp; omega
  clear hv1 hv2
  have C := fail_t S8 U8 132 st
  go_wp2_with fail
  refine C.mono ?_
  rintro e w9 ⟨rfl, S9, U9⟩
  clear C
  go_wp2
  go_ret
  exact ⟨rfl, ⟨_, _, S9⟩, U9⟩
set_option maxHeartbeats 4000000 in
set_option maxRecDepth 100000 in
theorem rbk_bad (rb tb : Nat) (ao : Option Addr) (n cap : Nat) (f : Nat → Int) (a k : Nat) (c p : Int) (st : Nat) (w : World) (h : RT w rb tb ao n cap f a k c p ⟨0, 0, 0, 0, [], false, st, 0⟩) (hl : a < n) (hq : hasB f n a [60] = false) (hq2 : hasB f n a [123] = true) (D : Nat) (V : Int) (hD : cntD digitB f n 2 (a + 1) = D) (hV : numV f n 2 (a + 1) = V) (hz : ¬ n ≤ a + 1 + D) (hv : ¬ V < 1) (hy : ¬ f (a + 1 + D) = 125) :
    Calls Tryz.prog 89 #[.pointer (some ⟨rb, 0, none⟩), .pointer (some ⟨tb, 0, none⟩)] w (REt w rb tb ao n cap f k c p st (.no 132 st)) := by
  have hvv := numV_neg f n 2 (a + 1) h.rs.ff (by decide)
  have hd := (cntD_le digitB f n 2 (a + 1)).2 hl
  rw [hD] at hd
  rw [hV] at hvv
  obtain ⟨-, hv1, hv2⟩ := hvv
  have KD : Hid (cntD digitB f n 2 (a + 1) = D) := hD
  have KV : Hid (numV f n 2 (a + 1) = V) := hV
  clear hD hV
  have KQ : Hid (hasB f n a [60] = false) := hq
  have KQ2 : Hid (hasB f n a [123] = true) := hq2
  clear hq hq2
  have KY : Hid (¬ f (a + 1 + D) = 125) := hy
  clear hy
  have S0 := h
  have U0 : T2 rb tb w w := lin.Turns.refl _ w
  have hne : ¬ tb = rb := h.ne
  have hne' : ¬ rb = tb := fun e => h.ne e.symm
  have hn := h.rs.nn
  have ha := h.rs.aa
  have hcc := h.rs.cc
  have hcm := h.rs.cm
  clear h
  obtain ⟨⟨c0, c1, c2, z1, z2⟩, ⟨k0, k1, k2, k3, k4, k5, k6, k7⟩, ⟨f0, f1, f2, f3, f4, f5, f6, f7⟩⟩ := S0.cells
  go_enter Tryz.func89, Tryz.ntmps89
  have S1 := S0.t0 9
  have U1 := T2.put U0 0 (.int .i64 9)
  clear S0 U0
  skip
  have hz2 : 0 < n - (a) := by omega
  have hz3 : ¬ n - (a) = 0 := by omega
  have hz4 : (((n - (a) : Nat) : Int) == 0) = false := by simp; omega
  have hz5 : (0 : Int) < ((n - (a) : Nat) : Int) := by omega
  have C := rest_t S1 U1
  go_wp2_with fail
  refine C.mono ?_
  rintro e w2 ⟨rfl, S2, U2⟩
  clear C S1 U1
  clear c0 c1 c2 z1 z2 k0 k1 k2 k3 k4 k5 k6 k7 f0 f1 f2 f3 f4 f5 f6 f7
  obtain ⟨⟨c0, c1, c2, z1, z2⟩, ⟨k0, k1, k2, k3, k4, k5, k6, k7⟩, ⟨f0, f1, f2, f3, f4, f5, f6, f7⟩⟩ := S2.cells
  have C := has_t S2 U2 [60] (by decide) (by decide)
  rw [KQ.out] at C
  go_wp2_with fail
  refine C.mono ?_
  rintro e w3 ⟨rfl, S3, U3⟩
  clear C S2 U2
  clear c0 c1 c2 z1 z2 k0 k1 k2 k3 k4 k5 k6 k7 f0 f1 f2 f3 f4 f5 f6 f7
  obtain ⟨⟨c0, c1, c2, z1, z2⟩, ⟨k0, k1, k2, k3, k4, k5, k6, k7⟩, ⟨f0, f1, f2, f3, f4, f5, f6, f7⟩⟩ := S3.cells
  have C := has_t S3 U3 [123] (by decide) (by decide)
  rw [KQ2.out] at C
  go_wp2_with fail
  refine C.mono ?_
  rintro e w4 ⟨rfl, S4, U4⟩
  clear C S3 U3
  clear c0 c1 c2 z1 z2 k0 k1 k2 k3 k4 k5 k6 k7 f0 f1 f2 f3 f4 f5 f6 f7
  obtain ⟨⟨c0, c1, c2, z1, z2⟩, ⟨k0, k1, k2, k3, k4, k5, k6, k7⟩, ⟨f0, f1, f2, f3, f4, f5, f6, f7⟩⟩ := S4.cells
  have S5 := S4.put1 (x := ((a : Nat) : Int) + 1) (a' := a + 1) (by omega) (by omega)
  have U5 := T2.at U4 1 (.int .i64 (((a : Nat) : Int) + 1))
  clear S4 U4
  have C := number_t S5 U5 2 (by decide)
  go_wp2_with fail
  refine C.mono ?_
  rintro e w6 ⟨rfl, S6, U6⟩
  clear C S5 U5
  clear c0 c1 c2 z1 z2 k0 k1 k2 k3 k4 k5 k6 k7 f0 f1 f2 f3 f4 f5 f6 f7
  obtain ⟨⟨c0, c1, c2, z1, z2⟩, ⟨k0, k1, k2, k3, k4, k5, k6, k7⟩, ⟨f0, f1, f2, f3, f4, f5, f6, f7⟩⟩ := S6.cells
  rw [KD.out] at S6
  rw [KV.out]
  clear c0 c1 c2 z1 z2 k0 k1 k2 k3 k4 k5 k6 k7 f0 f1 f2 f3 f4 f5 f6 f7
  obtain ⟨⟨c0, c1, c2, z1, z2⟩, ⟨k0, k1, k2, k3, k4, k5, k6, k7⟩, ⟨f0, f1, f2, f3, f4, f5, f6, f7⟩⟩ := S6.cells
  have S7 := S6.t2 V
  have U7 := T2.put U6 2 (.int .i64 V)
  clear S6 U6
  clear hz2 hz3 hz4 hz5
  have hz2 : 0 < n - (a + 1 + D) := by omega
  have hz3 : ¬ n - (a + 1 + D) = 0 := by omega
  have hz4 : (((n - (a + 1 + D) : Nat) : Int) == 0) = false := by simp; omega
  have hz5 : (0 : Int) < ((n - (a + 1 + D) : Nat) : Int) := by omega
  have C := rest_t S7 U7
  go_wp2_with fail
  refine C.mono ?_
  rintro e w8 ⟨rfl, S8, U8⟩
  clear C S7 U7
  clear c0 c1 c2 z1 z2 k0 k1 k2 k3 k4 k5 k6 k7 f0 f1 f2 f3 f4 f5 f6 f7
  obtain ⟨⟨c0, c1, c2, z1, z2⟩, ⟨k0, k1, k2, k3, k4, k5, k6, k7⟩, ⟨f0, f1, f2, f3, f4, f5, f6, f7⟩⟩ := S8.cells
  have hv5 : decide (V < 1) = false := by simp; omega
  clear hv1 hv2
  have hel : a + 1 + D < n := by omega
  have C := rest_lt S8 U8 hel
  go_wp2_with fail
  refine C.mono ?_
  rintro e w9 ⟨gb, go, rfl, cx, hg1, hg2, S9, U9⟩
  clear C S8 U8
  clear c0 c1 c2 z1 z2 k0 k1 k2 k3 k4 k5 k6 k7 f0 f1 f2 f3 f4 f5 f6 f7
  obtain ⟨⟨c0, c1, c2, z1, z2⟩, ⟨k0, k1, k2, k3, k4, k5, k6, k7⟩, ⟨f0, f1, f2, f3, f4, f5, f6, f7⟩⟩ := S9.cells
  obtain ⟨yy, hyy⟩ : ∃ yy, f (a + 1 + D) = yy := ⟨_, rfl⟩
  have hy := KY.out
  rw [hyy] at cx hy
  clear hyy KY
  have hy2 : (yy == 125) = false := by simp [hy]
  have hy3 : (yy != 125) = true := by simp [hy]
  have C := fail_t S9 U9 132 st
  go_wp2_with fail
  refine C.mono ?_
  rintro e w9 ⟨rfl, S9, U9⟩
  clear C
  go_wp2
  go_ret
  exact ⟨rfl, ⟨_, _, S9⟩, U9⟩
set_option maxHeartbeats 4000000 in
set_option maxRecDepth 100000 in
theorem rbk_ok (rb tb : Nat) (ao : Option Addr) (n cap : Nat) (f : Nat → Int) (a k : Nat) (c p : Int) (st : Nat) (w : World) (h : RT w rb tb ao n cap f a k c p ⟨0, 0, 0, 0, [], false, st, 0⟩) (hl : a < n) (hq : hasB f n a [60] = false) (hq2 : hasB f n a [123] = true) (D : Nat) (V : Int) (hD : cntD digitB f n 2 (a + 1) = D) (hV : numV f n 2 (a + 1) = V) (hz : ¬ n ≤ a + 1 + D) (hv : ¬ V < 1) (hy : f (a + 1 + D) = 125) :
    Calls Tryz.prog 89 #[.pointer (some ⟨rb, 0, none⟩), .pointer (some ⟨tb, 0, none⟩)] w (REt w rb tb ao n cap f k c p st (.ok ⟨9, 0, V, 0, [], false, 0, 0⟩ (a + 1 + D + 1))) := by
  have hvv := numV_neg f n 2 (a + 1) h.rs.ff (by decide)
  have hd := (cntD_le digitB f n 2 (a + 1)).2 hl
  rw [hD] at hd
  rw [hV] at hvv
  obtain ⟨-, hv1, hv2⟩ := hvv
  have KD : Hid (cntD digitB f n 2 (a + 1) = D) := hD
  have KV : Hid (numV f n 2 (a + 1) = V) := hV
  clear hD hV
  have KQ : Hid (hasB f n a [60] = false) := hq
  have KQ2 : Hid (hasB f n a [123] = true) := hq2
  clear hq hq2
  have KY : Hid (f (a + 1 + D) = 125) := hy
  clear hy
  have S0 := h
  have U0 : T2 rb tb w w := lin.Turns.refl _ w
  have hne : ¬ tb = rb := h.ne
  have hne' : ¬ rb = tb := fun e => h.ne e.symm
  have hn := h.rs.nn
  have ha := h.rs.aa
  have hcc := h.rs.cc
  have hcm := h.rs.cm
  clear h
  obtain ⟨⟨c0, c1, c2, z1, z2⟩, ⟨k0, k1, k2, k3, k4, k5, k6, k7⟩, ⟨f0, f1, f2, f3, f4, f5, f6, f7⟩⟩ := S0.cells
  go_enter Tryz.func89, Tryz.ntmps89
  have S1 := S0.t0 9
  have U1 := T2.put U0 0 (.int .i64 9)
  clear S0 U0
  skip
  have hz2 : 0 < n - (a) := by omega
  have hz3 : ¬ n - (a) = 0 := by omega
  have hz4 : (((n - (a) : Nat) : Int) == 0) = false := by simp; omega
  have hz5 : (0 : Int) < ((n - (a) : Nat) : Int) := by omega
  have C := rest_t S1 U1
  go_wp2_with fail
  refine C.mono ?_
  rintro e w2 ⟨rfl, S2, U2⟩
  clear C S1 U1
  clear c0 c1 c2 z1 z2 k0 k1 k2 k3 k4 k5 k6 k7 f0 f1 f2 f3 f4 f5 f6 f7
  obtain ⟨⟨c0, c1, c2, z1, z2⟩, ⟨k0, k1, k2, k3, k4, k5, k6, k7⟩, ⟨f0, f1, f2, f3, f4, f5, f6, f7⟩⟩ := S2.cells
  have C := has_t S2 U2 [60] (by decide) (by decide)
  rw [KQ.out] at C
  go_wp2_with fail
  refine C.mono ?_
  rintro e w3 ⟨rfl, S3, U3⟩
  clear C S2 U2
  clear c0 c1 c2 z1 z2 k0 k1 k2 k3 k4 k5 k6 k7 f0 f1 f2 f3 f4 f5 f6 f7
  obtain ⟨⟨c0, c1, c2, z1, z2⟩, ⟨k0, k1, k2, k3, k4, k5, k6, k7⟩, ⟨f0, f1, f2, f3, f4, f5, f6, f7⟩⟩ := S3.cells
  have C := has_t S3 U3 [123] (by decide) (by decide)
  rw [KQ2.out] at C
  go_wp2_with fail
  refine C.mono ?_
  rintro e w4 ⟨rfl, S4, U4⟩
  clear C S3 U3
  clear c0 c1 c2 z1 z2 k0 k1 k2 k3 k4 k5 k6 k7 f0 f1 f2 f3 f4 f5 f6 f7
  obtain ⟨⟨c0, c1, c2, z1, z2⟩, ⟨k0, k1, k2, k3, k4, k5, k6, k7⟩, ⟨f0, f1, f2, f3, f4, f5, f6, f7⟩⟩ := S4.cells
  have S5 := S4.put1 (x := ((a : Nat) : Int) + 1) (a' := a + 1) (by omega) (by omega)
  have U5 := T2.at U4 1 (.int .i64 (((a : Nat) : Int) + 1))
  clear S4 U4
  have C := number_t S5 U5 2 (by decide)
  go_wp2_with fail
  refine C.mono ?_
  rintro e w6 ⟨rfl, S6, U6⟩
  clear C S5 U5
  clear c0 c1 c2 z1 z2 k0 k1 k2 k3 k4 k5 k6 k7 f0 f1 f2 f3 f4 f5 f6 f7
  obtain ⟨⟨c0, c1, c2, z1, z2⟩, ⟨k0, k1, k2, k3, k4, k5, k6, k7⟩, ⟨f0, f1, f2, f3, f4, f5, f6, f7⟩⟩ := S6.cells
  rw [KD.out] at S6
  rw [KV.out]
  clear c0 c1 c2 z1 z2 k0 k1 k2 k3 k4 k5 k6 k7 f0 f1 f2 f3 f4 f5 f6 f7
  obtain ⟨⟨c0, c1, c2, z1, z2⟩, ⟨k0, k1, k2, k3, k4, k5, k6, k7⟩, ⟨f0, f1, f2, f3, f4, f5, f6, f7⟩⟩ := S6.cells
  have S7 := S6.t2 V
  have U7 := T2.put U6 2 (.int .i64 V)
  clear S6 U6
  clear hz2 hz3 hz4 hz5
  have hz2 : 0 < n - (a + 1 + D) := by omega
  have hz3 : ¬ n - (a + 1 + D) = 0 := by omega
  have hz4 : (((n - (a + 1 + D) : Nat) : Int) == 0) = false := by simp; omega
  have hz5 : (0 : Int) < ((n - (a + 1 + D) : Nat) : Int) := by omega
  have C := rest_t S7 U7
  go_wp2_with fail
  refine C.mono ?_
  rintro e w8 ⟨rfl, S8, U8⟩
  clear C S7 U7
  clear c0 c1 c2 z1 z2 k0 k1 k2 k3 k4 k5 k6 k7 f0 f1 f2 f3 f4 f5 f6 f7
  obtain ⟨⟨c0, c1, c2, z1, z2⟩, ⟨k0, k1, k2, k3, k4, k5, k6, k7⟩, ⟨f0, f1, f2, f3, f4, f5, f6, f7⟩⟩ := S8.cells
  have hv5 : decide (V < 1) = false := by simp; omega
  clear hv1 hv2
  have hel : a + 1 + D < n := by omega
  have C := rest_lt S8 U8 hel
  go_wp2_with fail
  refine C.mono ?_
  rintro e w9 ⟨gb, go, rfl, cx, hg1, hg2, S9, U9⟩
  clear C S8 U8
  clear c0 c1 c2 z1 z2 k0 k1 k2 k3 k4 k5 k6 k7 f0 f1 f2 f3 f4 f5 f6 f7
  obtain ⟨⟨c0, c1, c2, z1, z2⟩, ⟨k0, k1, k2, k3, k4, k5, k6, k7⟩, ⟨f0, f1, f2, f3, f4, f5, f6, f7⟩⟩ := S9.cells
  rw [KY.out] at cx
  clear KY
  have S10 := S9.put1 (x := ((a + 1 + D : Nat) : Int) + 1) (a' := a + 1 + D + 1) (by omega) (by omega)
  have U10 := T2.at U9 1 (.int .i64 (((a + 1 + D : Nat) : Int) + 1))
  clear S9 U9
  go_wp2
  go_ret
  exact ⟨rfl, S10, U10⟩
theorem rback_n (rb tb : Nat) (ao : Option Addr) (n cap : Nat) (f : Nat → Int) (a k : Nat) (c p : Int) (st : Nat) (w : World) (h : RT w rb tb ao n cap f a k c p ⟨0, 0, 0, 0, [], false, st, 0⟩) (hst : noneC f st = 132) (h60 : ¬ (a < n ∧ f a = 60)) :
    Calls Tryz.prog 89 #[.pointer (some ⟨rb, 0, none⟩), .pointer (some ⟨tb, 0, none⟩)] w (REt w rb tb ao n cap f k c p st (back f n st a)) := by
  have N : (nope f st : Out Tk) = .no 132 st := by unfold nope; rw [hst]
  have hf := h.rs.ff
  have eh : ∀ x : UInt8, hasB f n a [x] = at_ f n a x.toNat := fun x => by simp [hasB]
  unfold back
  by_cases hl : a < n
  · rw [show octet f n a = .ok (f a) (a + 1) from by unfold octet; rw [if_pos hl], bind_ok]
    have hq : hasB f n a [60] = false := by rw [eh]; exact (at_ne f n _ _).2 h60
    rw [if_neg (fun q => h60 ⟨hl, q⟩)]
    by_cases h2 : f a = 123
    · have hq2 : hasB f n a [123] = true := by rw [eh]; exact (at_eq f n _ _).2 ⟨hl, h2⟩
      rw [if_pos h2, backN_ref f n st (a + 1) hl hf]
      by_cases hz : n ≤ a + 1 + cntD digitB f n 2 (a + 1)
      · rw [if_pos hz]; exact rbk_end rb tb ao n cap f a k c p st w h hl hq hq2 _ _ rfl rfl hz
      · rw [if_neg hz]
        by_cases hv : numV f n 2 (a + 1) < 1
        · rw [if_pos (.inl hv), N]; exact rbk_low rb tb ao n cap f a k c p st w h hl hq hq2 _ _ rfl rfl hz hv
        · by_cases hy : f (a + 1 + cntD digitB f n 2 (a + 1)) = 125
          · rw [if_neg (fun q => q.elim hv (fun z => z hy))]; exact rbk_ok rb tb ao n cap f a k c p st w h hl hq hq2 _ _ rfl rfl hz hv hy
          · rw [if_pos (.inr hy), N]; exact rbk_bad rb tb ao n cap f a k c p st w h hl hq hq2 _ _ rfl rfl hz hv hy
    · have hq2 : hasB f n a [123] = false := by rw [eh]; exact (at_ne f n _ _).2 (fun q => h2 q.2)
      rw [if_neg h2, N]; exact rbk_other rb tb ao n cap f a k c p st w h hl hq hq2
  · rw [show octet f n a = .no 130 n from by unfold octet; rw [if_neg hl], bind_no]
    exact rbk_end0 rb tb ao n cap f a k c p st w h (by omega)
end Go.Proofs.YtlgkfnecahgedaaGreatDoor.tok
end
