/- Texts that the proof leans on, one behind the other. -/
import Derived.Test.YtlgkfnecahgedaaGreatDoorBdTok10

section
/- The document's edges and repetitions. -/
set_option linter.unusedVariables false
set_option linter.unusedSimpArgs false
namespace Go.Proofs.YtlgkfnecahgedaaGreatDoor.tok
open Go.RowKit
open lin (BA Turns)

set_option maxHeartbeats 8000000 in
set_option maxRecDepth 100000 in
theorem redge_is (rb tb : Nat) (ao : Option Addr) (n cap : Nat) (f : Nat → Int) (a k : Nat) (c p : Int) (t : Tk) (st : Nat) (w : World) (h : RT w rb tb ao n cap f a k c p t) (ht : t = ⟨0, 0, 0, 0, [], false, st, 0⟩) (hst : noneC f st = 132) :
    Calls Tryz.prog 88 #[.pointer (some ⟨rb, 0, none⟩), .pointer (some ⟨tb, 0, none⟩), .bool false] w (REt w rb tb ao n cap f k c p st (edge f n st 5 7 9 a)) := by
  subst ht
  have S0 := h
  have U0 : T2 rb tb w w := lin.Turns.refl _ w
  have hne : ¬ tb = rb := h.ne
  have hne' : ¬ rb = tb := fun e => h.ne e.symm
  have hn := h.rs.nn
  have ha := h.rs.aa
  have hcc := h.rs.cc
  have hcm := h.rs.cm
  obtain ⟨R, hR⟩ : ∃ R, edge f n st 5 7 9 a = R := ⟨_, rfl⟩
  rw [hR]
  have HR : Hid (edge f n st 5 7 9 a = R) := hR
  clear hR
  have HE : Hid (R = if hasB f n a [123] = true then (if hasB f n a [123, 103, 125] = true then .ok (asrt 7) (a + 3) else if hasB f n a [123, 119, 125] = true then .ok (asrt 9) (a + 3) else if endsB f n a [123, 103, 125] = true ∨ endsB f n a [123, 119, 125] = true then .no 130 n else nope f st) else .ok (asrt 5) a) := by unfold Hid; rw [← HR.out]; exact edge_ref f n st 5 7 9 a ha
  clear HR
  have HR : Hid ((if hasB f n a [123] = true then (if hasB f n a [123, 103, 125] = true then .ok (asrt 7) (a + 3) else if hasB f n a [123, 119, 125] = true then .ok (asrt 9) (a + 3) else if endsB f n a [123, 103, 125] = true ∨ endsB f n a [123, 119, 125] = true then .no 130 n else nope f st) else .ok (asrt 5) a) = R) := HE.out.symm
  clear HE
  clear h
  obtain ⟨⟨c0, c1, c2, z1, z2⟩, ⟨k0, k1, k2, k3, k4, k5, k6, k7⟩, ⟨f0, f1, f2, f3, f4, f5, f6, f7⟩⟩ := S0.cells
  go_enter Tryz.func88, Tryz.ntmps88
  have S1 := S0.t0 7
  have U1 := T2.put U0 0 (.int .i64 7)
  clear S0 U0
  have S2 := S1.t1 5
  have U2 := T2.put U1 1 (.int .i64 5)
  clear S1 U1
  have C := has_t S2 U2 [123] (by decide) (by decide)
  obtain ⟨b, hq⟩ : ∃ b, hasB f n (a) [123] = b := ⟨_, rfl⟩
  rw [hq] at C
  have Q21 : Hid (hasB f n (a) [123] = b) := hq
  clear hq
  go_wp2_with fail
  refine C.mono ?_
  rintro e w3 ⟨rfl, S3, U3⟩
  clear C S2 U2
  clear c0 c1 c2 z1 z2 k0 k1 k2 k3 k4 k5 k6 k7 f0 f1 f2 f3 f4 f5 f6 f7
  obtain ⟨⟨c0, c1, c2, z1, z2⟩, ⟨k0, k1, k2, k3, k4, k5, k6, k7⟩, ⟨f0, f1, f2, f3, f4, f5, f6, f7⟩⟩ := S3.cells
  cases b with
  | true =>
    have C := has_t S3 U3 [123, 103, 125] (by decide) (by decide)
    obtain ⟨b, hq⟩ : ∃ b, hasB f n (a) [123, 103, 125] = b := ⟨_, rfl⟩
    rw [hq] at C
    have Q32 : Hid (hasB f n (a) [123, 103, 125] = b) := hq
    clear hq
    go_wp2_with fail
    refine C.mono ?_
    rintro e w4 ⟨rfl, S4, U4⟩
    clear C S3 U3
    clear c0 c1 c2 z1 z2 k0 k1 k2 k3 k4 k5 k6 k7 f0 f1 f2 f3 f4 f5 f6 f7
    obtain ⟨⟨c0, c1, c2, z1, z2⟩, ⟨k0, k1, k2, k3, k4, k5, k6, k7⟩, ⟨f0, f1, f2, f3, f4, f5, f6, f7⟩⟩ := S4.cells
    cases b with
    | true =>
      have hb3 : a + 3 ≤ n := by
        have := Q32.out
        simp [hasB, at_] at this
        omega
      have S5 := S4.t1 7
      have U5 := T2.put U4 1 (.int .i64 7)
      clear S4 U4
      have S6 := S5.put1 (x := ((a : Nat) : Int) + 3) (a' := a + 3) (by omega) (by omega)
      have U6 := T2.at U5 1 (.int .i64 (((a : Nat) : Int) + 3))
      clear S5 U5
      obtain rfl : R = .ok (asrt 7) (a + 3) := by rw [← HR.out]; simp [nope, asrt, bind_ok, bind_no, Q21.out, Q32.out]
      clear HR
      go_wp2
      go_ret
      exact ⟨rfl, S6, U6⟩
    | false =>
      have C := has_t S4 U4 [123, 119, 125] (by decide) (by decide)
      obtain ⟨b, hq⟩ : ∃ b, hasB f n (a) [123, 119, 125] = b := ⟨_, rfl⟩
      rw [hq] at C
      have Q43 : Hid (hasB f n (a) [123, 119, 125] = b) := hq
      clear hq
      go_wp2_with fail
      refine C.mono ?_
      rintro e w5 ⟨rfl, S5, U5⟩
      clear C S4 U4
      clear c0 c1 c2 z1 z2 k0 k1 k2 k3 k4 k5 k6 k7 f0 f1 f2 f3 f4 f5 f6 f7
      obtain ⟨⟨c0, c1, c2, z1, z2⟩, ⟨k0, k1, k2, k3, k4, k5, k6, k7⟩, ⟨f0, f1, f2, f3, f4, f5, f6, f7⟩⟩ := S5.cells
      cases b with
      | true =>
        have hb3 : a + 3 ≤ n := by
          have := Q43.out
          simp [hasB, at_] at this
          omega
        have S6 := S5.t1 9
        have U6 := T2.put U5 1 (.int .i64 9)
        clear S5 U5
        have S7 := S6.put1 (x := ((a : Nat) : Int) + 3) (a' := a + 3) (by omega) (by omega)
        have U7 := T2.at U6 1 (.int .i64 (((a : Nat) : Int) + 3))
        clear S6 U6
        obtain rfl : R = .ok (asrt 9) (a + 3) := by rw [← HR.out]; simp [nope, asrt, bind_ok, bind_no, Q21.out, Q32.out, Q43.out]
        clear HR
        go_wp2
        go_ret
        exact ⟨rfl, S7, U7⟩
      | false =>
        have C := ends_t S5 U5 [123, 103, 125] (by decide)
        obtain ⟨b, hq⟩ : ∃ b, endsB f n (a) [123, 103, 125] = b := ⟨_, rfl⟩
        rw [hq] at C
        have Q54 : Hid (endsB f n (a) [123, 103, 125] = b) := hq
        clear hq
        go_wp2_with fail
        refine C.mono ?_
        rintro e w6 ⟨rfl, S6, U6⟩
        clear C S5 U5
        clear c0 c1 c2 z1 z2 k0 k1 k2 k3 k4 k5 k6 k7 f0 f1 f2 f3 f4 f5 f6 f7
        obtain ⟨⟨c0, c1, c2, z1, z2⟩, ⟨k0, k1, k2, k3, k4, k5, k6, k7⟩, ⟨f0, f1, f2, f3, f4, f5, f6, f7⟩⟩ := S6.cells
        cases b with
        | true =>
          obtain rfl : R = .no 130 n := by rw [← HR.out]; simp [nope, asrt, bind_ok, bind_no, Q21.out, Q32.out, Q43.out, Q54.out]
          clear HR
          have C := fail_t S6 U6 130 n
          go_wp2_with fail
          refine C.mono ?_
          rintro e w9 ⟨rfl, S9, U9⟩
          clear C
          go_wp2
          go_ret
          exact ⟨rfl, ⟨_, _, S9⟩, U9⟩
        | false =>
          have C := ends_t S6 U6 [123, 119, 125] (by decide)
          obtain ⟨b, hq⟩ : ∃ b, endsB f n (a) [123, 119, 125] = b := ⟨_, rfl⟩
          rw [hq] at C
          have Q65 : Hid (endsB f n (a) [123, 119, 125] = b) := hq
          clear hq
          go_wp2_with fail
          refine C.mono ?_
          rintro e w7 ⟨rfl, S7, U7⟩
          clear C S6 U6
          clear c0 c1 c2 z1 z2 k0 k1 k2 k3 k4 k5 k6 k7 f0 f1 f2 f3 f4 f5 f6 f7
          obtain ⟨⟨c0, c1, c2, z1, z2⟩, ⟨k0, k1, k2, k3, k4, k5, k6, k7⟩, ⟨f0, f1, f2, f3, f4, f5, f6, f7⟩⟩ := S7.cells
          cases b with
          | true =>
            obtain rfl : R = .no 130 n := by rw [← HR.out]; simp [nope, asrt, bind_ok, bind_no, Q21.out, Q32.out, Q43.out, Q54.out, Q65.out]
            clear HR
            have C := fail_t S7 U7 130 n
            go_wp2_with fail
            refine C.mono ?_
            rintro e w9 ⟨rfl, S9, U9⟩
            clear C
            go_wp2
            go_ret
            exact ⟨rfl, ⟨_, _, S9⟩, U9⟩
          | false =>
            obtain rfl : R = .no 132 st := by rw [← HR.out]; simp [nope, asrt, bind_ok, bind_no, Q21.out, Q32.out, Q43.out, Q54.out, Q65.out, hst]
            clear HR
            have C := fail_t S7 U7 132 st
            go_wp2_with fail
            refine C.mono ?_
            rintro e w9 ⟨rfl, S9, U9⟩
            clear C
            go_wp2
            go_ret
            exact ⟨rfl, ⟨_, _, S9⟩, U9⟩
  | false =>
    obtain rfl : R = .ok (asrt 5) (a) := by rw [← HR.out]; simp [nope, asrt, bind_ok, bind_no, Q21.out]
    clear HR
    go_wp2
    go_ret
    exact ⟨rfl, S3, U3⟩
set_option maxHeartbeats 8000000 in
set_option maxRecDepth 100000 in
theorem redge_not (rb tb : Nat) (ao : Option Addr) (n cap : Nat) (f : Nat → Int) (a k : Nat) (c p : Int) (t : Tk) (st : Nat) (w : World) (h : RT w rb tb ao n cap f a k c p t) (ht : t = ⟨0, 0, 0, 0, [], false, st, 0⟩) (hst : noneC f st = 132) :
    Calls Tryz.prog 88 #[.pointer (some ⟨rb, 0, none⟩), .pointer (some ⟨tb, 0, none⟩), .bool true] w (REt w rb tb ao n cap f k c p st (edge f n st 6 8 10 a)) := by
  subst ht
  have S0 := h
  have U0 : T2 rb tb w w := lin.Turns.refl _ w
  have hne : ¬ tb = rb := h.ne
  have hne' : ¬ rb = tb := fun e => h.ne e.symm
  have hn := h.rs.nn
  have ha := h.rs.aa
  have hcc := h.rs.cc
  have hcm := h.rs.cm
  obtain ⟨R, hR⟩ : ∃ R, edge f n st 6 8 10 a = R := ⟨_, rfl⟩
  rw [hR]
  have HR : Hid (edge f n st 6 8 10 a = R) := hR
  clear hR
  have HE : Hid (R = if hasB f n a [123] = true then (if hasB f n a [123, 103, 125] = true then .ok (asrt 8) (a + 3) else if hasB f n a [123, 119, 125] = true then .ok (asrt 10) (a + 3) else if endsB f n a [123, 103, 125] = true ∨ endsB f n a [123, 119, 125] = true then .no 130 n else nope f st) else .ok (asrt 6) a) := by unfold Hid; rw [← HR.out]; exact edge_ref f n st 6 8 10 a ha
  clear HR
  have HR : Hid ((if hasB f n a [123] = true then (if hasB f n a [123, 103, 125] = true then .ok (asrt 8) (a + 3) else if hasB f n a [123, 119, 125] = true then .ok (asrt 10) (a + 3) else if endsB f n a [123, 103, 125] = true ∨ endsB f n a [123, 119, 125] = true then .no 130 n else nope f st) else .ok (asrt 6) a) = R) := HE.out.symm
  clear HE
  clear h
  obtain ⟨⟨c0, c1, c2, z1, z2⟩, ⟨k0, k1, k2, k3, k4, k5, k6, k7⟩, ⟨f0, f1, f2, f3, f4, f5, f6, f7⟩⟩ := S0.cells
  go_enter Tryz.func88, Tryz.ntmps88
  have S1 := S0.t0 7
  have U1 := T2.put U0 0 (.int .i64 7)
  clear S0 U0
  have S2 := S1.t1 5
  have U2 := T2.put U1 1 (.int .i64 5)
  clear S1 U1
  have C := has_t S2 U2 [123] (by decide) (by decide)
  obtain ⟨b, hq⟩ : ∃ b, hasB f n (a) [123] = b := ⟨_, rfl⟩
  rw [hq] at C
  have Q21 : Hid (hasB f n (a) [123] = b) := hq
  clear hq
  go_wp2_with fail
  refine C.mono ?_
  rintro e w3 ⟨rfl, S3, U3⟩
  clear C S2 U2
  clear c0 c1 c2 z1 z2 k0 k1 k2 k3 k4 k5 k6 k7 f0 f1 f2 f3 f4 f5 f6 f7
  obtain ⟨⟨c0, c1, c2, z1, z2⟩, ⟨k0, k1, k2, k3, k4, k5, k6, k7⟩, ⟨f0, f1, f2, f3, f4, f5, f6, f7⟩⟩ := S3.cells
  cases b with
  | true =>
    have C := has_t S3 U3 [123, 103, 125] (by decide) (by decide)
    obtain ⟨b, hq⟩ : ∃ b, hasB f n (a) [123, 103, 125] = b := ⟨_, rfl⟩
    rw [hq] at C
    have Q32 : Hid (hasB f n (a) [123, 103, 125] = b) := hq
    clear hq
    go_wp2_with fail
    refine C.mono ?_
    rintro e w4 ⟨rfl, S4, U4⟩
    clear C S3 U3
    clear c0 c1 c2 z1 z2 k0 k1 k2 k3 k4 k5 k6 k7 f0 f1 f2 f3 f4 f5 f6 f7
    obtain ⟨⟨c0, c1, c2, z1, z2⟩, ⟨k0, k1, k2, k3, k4, k5, k6, k7⟩, ⟨f0, f1, f2, f3, f4, f5, f6, f7⟩⟩ := S4.cells
    cases b with
    | true =>
      have hb3 : a + 3 ≤ n := by
        have := Q32.out
        simp [hasB, at_] at this
        omega
      have S5 := S4.t1 7
      have U5 := T2.put U4 1 (.int .i64 7)
      clear S4 U4
      have S6 := S5.put1 (x := ((a : Nat) : Int) + 3) (a' := a + 3) (by omega) (by omega)
      have U6 := T2.at U5 1 (.int .i64 (((a : Nat) : Int) + 3))
      clear S5 U5
      have S7 := S6.t1 8
      have U7 := T2.put U6 1 (.int .i64 8)
      clear S6 U6
      obtain rfl : R = .ok (asrt 8) (a + 3) := by rw [← HR.out]; simp [nope, asrt, bind_ok, bind_no, Q21.out, Q32.out]
      clear HR
      go_wp2
      go_ret
      exact ⟨rfl, S7, U7⟩
    | false =>
      have C := has_t S4 U4 [123, 119, 125] (by decide) (by decide)
      obtain ⟨b, hq⟩ : ∃ b, hasB f n (a) [123, 119, 125] = b := ⟨_, rfl⟩
      rw [hq] at C
      have Q43 : Hid (hasB f n (a) [123, 119, 125] = b) := hq
      clear hq
      go_wp2_with fail
      refine C.mono ?_
      rintro e w5 ⟨rfl, S5, U5⟩
      clear C S4 U4
      clear c0 c1 c2 z1 z2 k0 k1 k2 k3 k4 k5 k6 k7 f0 f1 f2 f3 f4 f5 f6 f7
      obtain ⟨⟨c0, c1, c2, z1, z2⟩, ⟨k0, k1, k2, k3, k4, k5, k6, k7⟩, ⟨f0, f1, f2, f3, f4, f5, f6, f7⟩⟩ := S5.cells
      cases b with
      | true =>
        have hb3 : a + 3 ≤ n := by
          have := Q43.out
          simp [hasB, at_] at this
          omega
        have S6 := S5.t1 9
        have U6 := T2.put U5 1 (.int .i64 9)
        clear S5 U5
        have S7 := S6.put1 (x := ((a : Nat) : Int) + 3) (a' := a + 3) (by omega) (by omega)
        have U7 := T2.at U6 1 (.int .i64 (((a : Nat) : Int) + 3))
        clear S6 U6
        have S8 := S7.t1 10
        have U8 := T2.put U7 1 (.int .i64 10)
        clear S7 U7
        obtain rfl : R = .ok (asrt 10) (a + 3) := by rw [← HR.out]; simp [nope, asrt, bind_ok, bind_no, Q21.out, Q32.out, Q43.out]
        clear HR
        go_wp2
        go_ret
        exact ⟨rfl, S8, U8⟩
      | false =>
        have C := ends_t S5 U5 [123, 103, 125] (by decide)
        obtain ⟨b, hq⟩ : ∃ b, endsB f n (a) [123, 103, 125] = b := ⟨_, rfl⟩
        rw [hq] at C
        have Q54 : Hid (endsB f n (a) [123, 103, 125] = b) := hq
        clear hq
        go_wp2_with fail
        refine C.mono ?_
        rintro e w6 ⟨rfl, S6, U6⟩
        clear C S5 U5
        clear c0 c1 c2 z1 z2 k0 k1 k2 k3 k4 k5 k6 k7 f0 f1 f2 f3 f4 f5 f6 f7
        obtain ⟨⟨c0, c1, c2, z1, z2⟩, ⟨k0, k1, k2, k3, k4, k5, k6, k7⟩, ⟨f0, f1, f2, f3, f4, f5, f6, f7⟩⟩ := S6.cells
        cases b with
        | true =>
          obtain rfl : R = .no 130 n := by rw [← HR.out]; simp [nope, asrt, bind_ok, bind_no, Q21.out, Q32.out, Q43.out, Q54.out]
          clear HR
          have C := fail_t S6 U6 130 n
          go_wp2_with fail
          refine C.mono ?_
          rintro e w9 ⟨rfl, S9, U9⟩
          clear C
          go_wp2
          go_ret
          exact ⟨rfl, ⟨_, _, S9⟩, U9⟩
        | false =>
          have C := ends_t S6 U6 [123, 119, 125] (by decide)
          obtain ⟨b, hq⟩ : ∃ b, endsB f n (a) [123, 119, 125] = b := ⟨_, rfl⟩
          rw [hq] at C
          have Q65 : Hid (endsB f n (a) [123, 119, 125] = b) := hq
          clear hq
          go_wp2_with fail
          refine C.mono ?_
          rintro e w7 ⟨rfl, S7, U7⟩
          clear C S6 U6
          clear c0 c1 c2 z1 z2 k0 k1 k2 k3 k4 k5 k6 k7 f0 f1 f2 f3 f4 f5 f6 f7
          obtain ⟨⟨c0, c1, c2, z1, z2⟩, ⟨k0, k1, k2, k3, k4, k5, k6, k7⟩, ⟨f0, f1, f2, f3, f4, f5, f6, f7⟩⟩ := S7.cells
          cases b with
          | true =>
            obtain rfl : R = .no 130 n := by rw [← HR.out]; simp [nope, asrt, bind_ok, bind_no, Q21.out, Q32.out, Q43.out, Q54.out, Q65.out]
            clear HR
            have C := fail_t S7 U7 130 n
            go_wp2_with fail
            refine C.mono ?_
            rintro e w9 ⟨rfl, S9, U9⟩
            clear C
            go_wp2
            go_ret
            exact ⟨rfl, ⟨_, _, S9⟩, U9⟩
          | false =>
            obtain rfl : R = .no 132 st := by rw [← HR.out]; simp [nope, asrt, bind_ok, bind_no, Q21.out, Q32.out, Q43.out, Q54.out, Q65.out, hst]
            clear HR
            have C := fail_t S7 U7 132 st
            go_wp2_with fail
            refine C.mono ?_
            rintro e w9 ⟨rfl, S9, U9⟩
            clear C
            go_wp2
            go_ret
            exact ⟨rfl, ⟨_, _, S9⟩, U9⟩
  | false =>
    have S4 := S3.t1 6
    have U4 := T2.put U3 1 (.int .i64 6)
    clear S3 U3
    obtain rfl : R = .ok (asrt 6) (a) := by rw [← HR.out]; simp [nope, asrt, bind_ok, bind_no, Q21.out]
    clear HR
    go_wp2
    go_ret
    exact ⟨rfl, S4, U4⟩
end Go.Proofs.YtlgkfnecahgedaaGreatDoor.tok
end

section
/- Repetitions by numbers: the document's way says the same. -/
set_option linter.unusedVariables false
set_option linter.unusedSimpArgs false
namespace Go.Proofs.YtlgkfnecahgedaaGreatDoor.tok
open Go.RowKit
open lin (BA)

section
variable (f : Nat → Int) (n : Nat)
/-- The last test of both numbers. -/
def chk (st : Nat) (x y : Int) (e : Nat) : Out (Int × Int) := if n ≤ e then .no 130 n else if x < 0 ∨ ¬ f e = 125 ∨ 100 < x ∨ 100 < y ∨ (0 ≤ y ∧ y < x) then nope f st else .ok (x, y) (e + 1)
def countsR (st a : Nat) : Out (Int × Int) :=
  if 0 ≤ numV f n 3 a ∧ hasB f n (a + cntD digitB f n 3 a) [44] = true then chk f n st (numV f n 3 a) (numV f n 3 (a + cntD digitB f n 3 a + 1)) (a + cntD digitB f n 3 a + 1 + cntD digitB f n 3 (a + cntD digitB f n 3 a + 1))
  else chk f n st (numV f n 3 a) (numV f n 3 a) (a + cntD digitB f n 3 a)
theorem chk_ok {st : Nat} {x y : Int} {e : Nat} (h1 : e < n) (h2 : cntOk x y (f e)) (hx : 0 ≤ x) (hy : -1 ≤ y) : chk f n st x y e = .ok (x, y) (e + 1) := by
  unfold chk cntOk at *
  rw [if_neg (by omega), if_neg (by omega)]
theorem chk_no {st : Nat} {x y : Int} {e : Nat} (h1 : e < n) (h2 : ¬ cntOk x y (f e)) (hx : 0 ≤ x) (hy : -1 ≤ y) : chk f n st x y e = nope f st := by
  unfold chk cntOk at *
  rw [if_neg (by omega), if_pos (by omega)]
theorem chk_bad {st : Nat} {x y : Int} {e : Nat} (h1 : e < n) (h : x < 0 ∨ ¬ f e = 125) : chk f n st x y e = nope f st := by
  unfold chk
  rw [if_neg (by omega), if_pos (by omega)]
theorem chk_end {st : Nat} {x y : Int} {e : Nat} (h1 : n ≤ e) : chk f n st x y e = .no 130 n := by unfold chk; rw [if_pos h1]
theorem digit_not {c : Int} (h : digitB c = true) : ¬ c = 44 ∧ ¬ c = 125 := by unfold digitB at h; simp at h; omega
theorem cnt_none {m a : Nat} (h : ¬ (a < n ∧ digitB (f a) = true)) : cntD digitB f n m a = 0 := by
  cases m with
  | zero => rfl
  | succ m => simp only [cntD]; rw [if_neg h]
theorem counted_ref (st a : Nat) (ha : a ≤ n) (hf : ∀ i, 0 ≤ f i ∧ f i ≤ 255) : counted f n st a = (countsR f n st a).bind fun q a => rep f n q.1 q.2 a := by
  unfold counted countsR
  rw [number_ref f n st 3 a ha]
  have hv := numV_neg f n 3 a hf (by decide)
  have hl := (cntD_le digitB f n 3 a).2 ha
  generalize numV f n 3 a = V at *
  generalize cntD digitB f n 3 a = D at *
  have eh : hasB f n (a + D) [44] = at_ f n (a + D) 44 := by simp [hasB]
  rw [eh]
  by_cases h1 : n ≤ a + D
  · have k : at_ f n (a + D) 44 = false := (at_ne f n _ _).2 (fun q => by omega)
    rw [if_pos h1, bind_no, if_neg (by rw [k]; simp), chk_end f n h1, bind_no]
  · rw [if_neg h1]
    by_cases h2 : D = 0
    · have hV : V < 0 := hv.1.2 h2
      rw [if_pos (.inl h2), if_neg (fun q => by omega), chk_bad f n (by omega) (.inl hV)]
      rfl
    · have hV : 0 ≤ V := by have : ¬ V < 0 := fun q => h2 (hv.1.1 q); omega
      by_cases h3 : digitB (f (a + D)) = true
      · obtain ⟨d1, d2⟩ := digit_not h3
        have k : at_ f n (a + D) 44 = false := (at_ne f n _ _).2 (fun q => d1 q.2)
        rw [if_pos (.inr h3), if_neg (by rw [k]; simp), chk_bad f n (by omega) (.inr d2)]
        rfl
      · rw [if_neg (fun q => q.elim h2 h3), bind_ok]
        simp only []
        by_cases h4 : f (a + D) = 44
        · have k : at_ f n (a + D) 44 = true := (at_eq f n _ _).2 ⟨by omega, h4⟩
          have r : (0 ≤ V ∧ at_ f n (a + D) 44 = true) := ⟨hV, k⟩
          rw [if_pos r]
          by_cases h5 : at_ f n (a + D + 1) 125 = true
          · have h5' := (at_eq f n _ _).1 h5
            have z : cntD digitB f n 3 (a + D + 1) = 0 := cnt_none f n (fun q => (digit_not q.2).2 h5'.2)
            have z2 : numV f n 3 (a + D + 1) = -1 := by unfold numV; rw [if_pos z]
            rw [if_pos ⟨h4, h5⟩, z, z2, Nat.add_zero]
            by_cases h6 : cntOk V (-1) 125
            · rw [if_pos h6, chk_ok f n h5'.1 (by rw [h5'.2]; exact h6) hV (by decide), bind_ok]
            · rw [if_neg h6, chk_no f n h5'.1 (by rw [h5'.2]; exact h6) hV (by decide)]
              rfl
          · rw [if_neg (fun q => h5 q.2), if_pos h4, number_ref f n st 3 (a + D + 1) (by omega)]
            have hv2 := numV_neg f n 3 (a + D + 1) hf (by decide)
            have h5' : ¬ (a + D + 1 < n ∧ f (a + D + 1) = 125) := fun q => h5 ((at_eq f n _ _).2 q)
            generalize numV f n 3 (a + D + 1) = V2 at *
            generalize cntD digitB f n 3 (a + D + 1) = D2 at *
            by_cases g1 : n ≤ a + D + 1 + D2
            · rw [if_pos g1, bind_no, chk_end f n g1, bind_no]
            · rw [if_neg g1]
              by_cases g2 : D2 = 0
              · rw [if_pos (.inl g2), chk_bad f n (by omega) (.inr (fun q => h5' ⟨by omega, by rw [g2] at q; exact q⟩))]
                rfl
              · by_cases g3 : digitB (f (a + D + 1 + D2)) = true
                · rw [if_pos (.inr g3), chk_bad f n (by omega) (.inr (digit_not g3).2)]
                  rfl
                · rw [if_neg (fun q => q.elim g2 g3), bind_ok]
                  simp only []
                  by_cases g4 : cntOk V V2 (f (a + D + 1 + D2))
                  · rw [if_pos g4, chk_ok f n (by omega) g4 hV hv2.2.2, bind_ok]
                  · rw [if_neg g4, chk_no f n (by omega) g4 hV hv2.2.2]
                    rfl
        · have k : at_ f n (a + D) 44 = false := (at_ne f n _ _).2 (fun q => h4 q.2)
          have r : ¬ (0 ≤ V ∧ at_ f n (a + D) 44 = true) := by rw [k]; simp
          have r2 : ¬ (f (a + D) = 44 ∧ at_ f n (a + D + 1) 125 = true) := fun q => h4 q.1
          rw [if_neg r, if_neg r2, if_neg h4]
          by_cases g4 : cntOk V V (f (a + D))
          · rw [if_pos g4, chk_ok f n (by omega) g4 hV (by omega), bind_ok]
          · rw [if_neg g4, chk_no f n (by omega) g4 hV (by omega)]
            rfl
theorem rep_ref (x y : Int) (a : Nat) : rep f n x y a = if hasB f n a [63] = true then .ok ⟨6, 1, x, y, [], false, 0, 0⟩ (a + 1) else if hasB f n a [43] = true then .ok ⟨6, 2, x, y, [], false, 0, 0⟩ (a + 1) else .ok ⟨6, 0, x, y, [], false, 0, 0⟩ a := by
  have e1 : hasB f n a [63] = at_ f n a 63 := by simp [hasB]
  have e2 : hasB f n a [43] = at_ f n a 43 := by simp [hasB]
  rw [e1, e2]; rfl
end
end Go.Proofs.YtlgkfnecahgedaaGreatDoor.tok
end

section
/- The document's repetitions by numbers: how they end. -/
set_option linter.unusedVariables false
set_option linter.unusedSimpArgs false
namespace Go.Proofs.YtlgkfnecahgedaaGreatDoor.tok
open Go.RowKit
open lin (BA Turns)

/-- How counts ends: both numbers stand in the token. -/
def REc (w : World) (rb tb : Nat) (ao : Option Addr) (n cap : Nat) (f : Nat → Int) (k : Nat) (c p : Int) (st : Nat) : Out (Int × Int) → Ending → World → Prop
  | .ok q a', e, w' => e = .returned (.bool true) ∧ RT w' rb tb ao n cap f a' k c p ⟨6, 0, q.1, q.2, [], false, st, 0⟩ ∧ T2 rb tb w w'
  | .no c' p', e, w' => e = .returned (.bool false) ∧ (∃ a' t', RT w' rb tb ao n cap f a' k c' p' t') ∧ T2 rb tb w w'
end Go.Proofs.YtlgkfnecahgedaaGreatDoor.tok
end

section
/- The document's repetitions by numbers: no number, one number. -/
set_option linter.unusedVariables false
set_option linter.unusedSimpArgs false
namespace Go.Proofs.YtlgkfnecahgedaaGreatDoor.tok
open Go.RowKit
open lin (BA Turns)

set_option maxHeartbeats 4000000 in
set_option maxRecDepth 100000 in
theorem rc_neg_end (rb tb : Nat) (ao : Option Addr) (n cap : Nat) (f : Nat → Int) (a k : Nat) (c p : Int) (st : Nat) (w : World) (h : RT w rb tb ao n cap f a k c p ⟨6, 0, 0, 0, [], false, st, 0⟩) (hst : noneC f st = 150) (hl : a < n) (D : Nat) (V : Int) (hD : cntD digitB f n 3 (a + 1) = D) (hV : numV f n 3 (a + 1) = V) (hV0 : V < 0) (hz : n ≤ a + 1 + D) :
    Calls Tryz.prog 85 #[.pointer (some ⟨rb, 0, none⟩), .pointer (some ⟨tb, 0, none⟩)] w (REc w rb tb ao n cap f k c p st (.no 130 n)) := by
  have hf := h.rs.ff
  have hv := numV_neg f n 3 (a + 1) hf (by decide)
  have hd := (cntD_le digitB f n 3 (a + 1)).2 hl
  rw [hD] at hd
  rw [hV] at hv
  obtain ⟨-, hv1, hv2⟩ := hv
  have KD : Hid (cntD digitB f n 3 (a + 1) = D) := hD
  have KV : Hid (numV f n 3 (a + 1) = V) := hV
  clear hD hV
  clear hf
  have S0 := h
  have U0 : T2 rb tb w w := lin.Turns.refl _ w
  have hne : ¬ tb = rb := h.ne
  have hne' : ¬ rb = tb := fun e => h.ne e.symm
  have hn := h.rs.nn
  have ha := h.rs.aa
  have hcc := h.rs.cc
  have hcm := h.rs.cm
  clear h
  obtain ⟨⟨c0, c1, c2, z1, z2⟩, ⟨k0, k1, k2, k3, k4, k5, k6, k7⟩, ⟨f0, f1, f2, f3, f4, f5, f6, f7⟩⟩ := S0.cells
  go_enter Tryz.func85, Tryz.ntmps85
  have S1 := S0.put1 (x := ((a : Nat) : Int) + 1) (a' := a + 1) (by omega) (by omega)
  have U1 := T2.at U0 1 (.int .i64 (((a : Nat) : Int) + 1))
  clear S0 U0
  have C := number_t S1 U1 3 (by decide)
  go_wp2_with fail
  refine C.mono ?_
  rintro e w2 ⟨rfl, S2, U2⟩
  clear C S1 U1
  clear c0 c1 c2 z1 z2 k0 k1 k2 k3 k4 k5 k6 k7 f0 f1 f2 f3 f4 f5 f6 f7
  obtain ⟨⟨c0, c1, c2, z1, z2⟩, ⟨k0, k1, k2, k3, k4, k5, k6, k7⟩, ⟨f0, f1, f2, f3, f4, f5, f6, f7⟩⟩ := S2.cells
  rw [KD.out] at S2
  rw [KV.out]
  clear c0 c1 c2 z1 z2 k0 k1 k2 k3 k4 k5 k6 k7 f0 f1 f2 f3 f4 f5 f6 f7
  obtain ⟨⟨c0, c1, c2, z1, z2⟩, ⟨k0, k1, k2, k3, k4, k5, k6, k7⟩, ⟨f0, f1, f2, f3, f4, f5, f6, f7⟩⟩ := S2.cells
  have S3 := S2.t2 V
  have U3 := T2.put U2 2 (.int .i64 V)
  clear S2 U2
  have S4 := S3.t3 V
  have U4 := T2.put U3 3 (.int .i64 V)
  clear S3 U3
  have hz2 : n - (a + 1 + D) = 0 := by omega
  have C := rest_t S4 U4
  go_wp2_with fail
  refine C.mono ?_
  rintro e w5 ⟨rfl, S5, U5⟩
  clear C S4 U4
  clear c0 c1 c2 z1 z2 k0 k1 k2 k3 k4 k5 k6 k7 f0 f1 f2 f3 f4 f5 f6 f7
  obtain ⟨⟨c0, c1, c2, z1, z2⟩, ⟨k0, k1, k2, k3, k4, k5, k6, k7⟩, ⟨f0, f1, f2, f3, f4, f5, f6, f7⟩⟩ := S5.cells
  rw [hz2]
  have C := fail_t S5 U5 130 n
  go_wp2_with fail
  refine C.mono ?_
  rintro e w9 ⟨rfl, S9, U9⟩
  clear C
  go_wp2
  go_ret
  exact ⟨rfl, ⟨_, _, S9⟩, U9⟩
set_option maxHeartbeats 4000000 in
set_option maxRecDepth 100000 in
theorem rc_neg_bad (rb tb : Nat) (ao : Option Addr) (n cap : Nat) (f : Nat → Int) (a k : Nat) (c p : Int) (st : Nat) (w : World) (h : RT w rb tb ao n cap f a k c p ⟨6, 0, 0, 0, [], false, st, 0⟩) (hst : noneC f st = 150) (hl : a < n) (D : Nat) (V : Int) (hD : cntD digitB f n 3 (a + 1) = D) (hV : numV f n 3 (a + 1) = V) (hV0 : V < 0) (hz : ¬ n ≤ a + 1 + D) :
    Calls Tryz.prog 85 #[.pointer (some ⟨rb, 0, none⟩), .pointer (some ⟨tb, 0, none⟩)] w (REc w rb tb ao n cap f k c p st (.no 150 st)) := by
  have hf := h.rs.ff
  have hv := numV_neg f n 3 (a + 1) hf (by decide)
  have hd := (cntD_le digitB f n 3 (a + 1)).2 hl
  rw [hD] at hd
  rw [hV] at hv
  obtain ⟨-, hv1, hv2⟩ := hv
  have KD : Hid (cntD digitB f n 3 (a + 1) = D) := hD
  have KV : Hid (numV f n 3 (a + 1) = V) := hV
  clear hD hV
  clear hf
  have S0 := h
  have U0 : T2 rb tb w w := lin.Turns.refl _ w
  have hne : ¬ tb = rb := h.ne
  have hne' : ¬ rb = tb := fun e => h.ne e.symm
  have hn := h.rs.nn
  have ha := h.rs.aa
  have hcc := h.rs.cc
  have hcm := h.rs.cm
  clear h
  obtain ⟨⟨c0, c1, c2, z1, z2⟩, ⟨k0, k1, k2, k3, k4, k5, k6, k7⟩, ⟨f0, f1, f2, f3, f4, f5, f6, f7⟩⟩ := S0.cells
  go_enter Tryz.func85, Tryz.ntmps85
  have S1 := S0.put1 (x := ((a : Nat) : Int) + 1) (a' := a + 1) (by omega) (by omega)
  have U1 := T2.at U0 1 (.int .i64 (((a : Nat) : Int) + 1))
  clear S0 U0
  have C := number_t S1 U1 3 (by decide)
  go_wp2_with fail
  refine C.mono ?_
  rintro e w2 ⟨rfl, S2, U2⟩
  clear C S1 U1
  clear c0 c1 c2 z1 z2 k0 k1 k2 k3 k4 k5 k6 k7 f0 f1 f2 f3 f4 f5 f6 f7
  obtain ⟨⟨c0, c1, c2, z1, z2⟩, ⟨k0, k1, k2, k3, k4, k5, k6, k7⟩, ⟨f0, f1, f2, f3, f4, f5, f6, f7⟩⟩ := S2.cells
  rw [KD.out] at S2
  rw [KV.out]
  clear c0 c1 c2 z1 z2 k0 k1 k2 k3 k4 k5 k6 k7 f0 f1 f2 f3 f4 f5 f6 f7
  obtain ⟨⟨c0, c1, c2, z1, z2⟩, ⟨k0, k1, k2, k3, k4, k5, k6, k7⟩, ⟨f0, f1, f2, f3, f4, f5, f6, f7⟩⟩ := S2.cells
  have S3 := S2.t2 V
  have U3 := T2.put U2 2 (.int .i64 V)
  clear S2 U2
  have S4 := S3.t3 V
  have U4 := T2.put U3 3 (.int .i64 V)
  clear S3 U3
  have hz2 : 0 < n - (a + 1 + D) := by omega
  have hz3 : ¬ n - (a + 1 + D) = 0 := by omega
  have hz4 : (((n - (a + 1 + D) : Nat) : Int) == 0) = false := by simp; omega
  have hel : a + 1 + D < n := by omega
  have C := rest_t S4 U4
  go_wp2_with fail
  refine C.mono ?_
  rintro e w5 ⟨rfl, S5, U5⟩
  clear C S4 U4
  clear c0 c1 c2 z1 z2 k0 k1 k2 k3 k4 k5 k6 k7 f0 f1 f2 f3 f4 f5 f6 f7
  obtain ⟨⟨c0, c1, c2, z1, z2⟩, ⟨k0, k1, k2, k3, k4, k5, k6, k7⟩, ⟨f0, f1, f2, f3, f4, f5, f6, f7⟩⟩ := S5.cells
  have hA3 : decide (V < 0) = true := by simp; omega
  go_wp2
  go_quiet (fail)
  have SQ := S5.drewN nq
  have UQ := T2.drewN U5 nq
  have C := fail_t SQ UQ 150 st
  go_wp2_with fail
  refine C.mono ?_
  rintro e w9 ⟨rfl, S9, U9⟩
  clear C
  go_wp2
  go_ret
  exact ⟨rfl, ⟨_, _, S9⟩, U9⟩
set_option maxHeartbeats 4000000 in
set_option maxRecDepth 100000 in
theorem rc_plain_end (rb tb : Nat) (ao : Option Addr) (n cap : Nat) (f : Nat → Int) (a k : Nat) (c p : Int) (st : Nat) (w : World) (h : RT w rb tb ao n cap f a k c p ⟨6, 0, 0, 0, [], false, st, 0⟩) (hst : noneC f st = 150) (hl : a < n) (D : Nat) (V : Int) (hD : cntD digitB f n 3 (a + 1) = D) (hV : numV f n 3 (a + 1) = V) (hV0 : 0 ≤ V) (hq : hasB f n (a + 1 + D) [44] = false) (hz : n ≤ a + 1 + D) :
    Calls Tryz.prog 85 #[.pointer (some ⟨rb, 0, none⟩), .pointer (some ⟨tb, 0, none⟩)] w (REc w rb tb ao n cap f k c p st (.no 130 n)) := by
  have hf := h.rs.ff
  have hv := numV_neg f n 3 (a + 1) hf (by decide)
  have hd := (cntD_le digitB f n 3 (a + 1)).2 hl
  rw [hD] at hd
  rw [hV] at hv
  obtain ⟨-, hv1, hv2⟩ := hv
  have KD : Hid (cntD digitB f n 3 (a + 1) = D) := hD
  have KV : Hid (numV f n 3 (a + 1) = V) := hV
  clear hD hV
  have KQ : Hid (hasB f n (a + 1 + D) [44] = false) := hq
  clear hq
  clear hf
  have S0 := h
  have U0 : T2 rb tb w w := lin.Turns.refl _ w
  have hne : ¬ tb = rb := h.ne
  have hne' : ¬ rb = tb := fun e => h.ne e.symm
  have hn := h.rs.nn
  have ha := h.rs.aa
  have hcc := h.rs.cc
  have hcm := h.rs.cm
  clear h
  obtain ⟨⟨c0, c1, c2, z1, z2⟩, ⟨k0, k1, k2, k3, k4, k5, k6, k7⟩, ⟨f0, f1, f2, f3, f4, f5, f6, f7⟩⟩ := S0.cells
  go_enter Tryz.func85, Tryz.ntmps85
  have S1 := S0.put1 (x := ((a : Nat) : Int) + 1) (a' := a + 1) (by omega) (by omega)
  have U1 := T2.at U0 1 (.int .i64 (((a : Nat) : Int) + 1))
  clear S0 U0
  have C := number_t S1 U1 3 (by decide)
  go_wp2_with fail
  refine C.mono ?_
  rintro e w2 ⟨rfl, S2, U2⟩
  clear C S1 U1
  clear c0 c1 c2 z1 z2 k0 k1 k2 k3 k4 k5 k6 k7 f0 f1 f2 f3 f4 f5 f6 f7
  obtain ⟨⟨c0, c1, c2, z1, z2⟩, ⟨k0, k1, k2, k3, k4, k5, k6, k7⟩, ⟨f0, f1, f2, f3, f4, f5, f6, f7⟩⟩ := S2.cells
  rw [KD.out] at S2
  rw [KV.out]
  clear c0 c1 c2 z1 z2 k0 k1 k2 k3 k4 k5 k6 k7 f0 f1 f2 f3 f4 f5 f6 f7
  obtain ⟨⟨c0, c1, c2, z1, z2⟩, ⟨k0, k1, k2, k3, k4, k5, k6, k7⟩, ⟨f0, f1, f2, f3, f4, f5, f6, f7⟩⟩ := S2.cells
  have S3 := S2.t2 V
  have U3 := T2.put U2 2 (.int .i64 V)
  clear S2 U2
  have S4 := S3.t3 V
  have U4 := T2.put U3 3 (.int .i64 V)
  clear S3 U3
  have C := has_t S4 U4 [44] (by decide) (by decide)
  rw [KQ.out] at C
  go_wp2_with fail
  refine C.mono ?_
  rintro e w5 ⟨rfl, S5, U5⟩
  clear C S4 U4
  clear c0 c1 c2 z1 z2 k0 k1 k2 k3 k4 k5 k6 k7 f0 f1 f2 f3 f4 f5 f6 f7
  obtain ⟨⟨c0, c1, c2, z1, z2⟩, ⟨k0, k1, k2, k3, k4, k5, k6, k7⟩, ⟨f0, f1, f2, f3, f4, f5, f6, f7⟩⟩ := S5.cells
  have hz2 : n - (a + 1 + D) = 0 := by omega
  have C := rest_t S5 U5
  go_wp2_with fail
  refine C.mono ?_
  rintro e w6 ⟨rfl, S6, U6⟩
  clear C S5 U5
  clear c0 c1 c2 z1 z2 k0 k1 k2 k3 k4 k5 k6 k7 f0 f1 f2 f3 f4 f5 f6 f7
  obtain ⟨⟨c0, c1, c2, z1, z2⟩, ⟨k0, k1, k2, k3, k4, k5, k6, k7⟩, ⟨f0, f1, f2, f3, f4, f5, f6, f7⟩⟩ := S6.cells
  rw [hz2]
  have C := fail_t S6 U6 130 n
  go_wp2_with fail
  refine C.mono ?_
  rintro e w9 ⟨rfl, S9, U9⟩
  clear C
  go_wp2
  go_ret
  exact ⟨rfl, ⟨_, _, S9⟩, U9⟩
set_option maxHeartbeats 4000000 in
set_option maxRecDepth 100000 in
theorem rc_plain_bad (rb tb : Nat) (ao : Option Addr) (n cap : Nat) (f : Nat → Int) (a k : Nat) (c p : Int) (st : Nat) (w : World) (h : RT w rb tb ao n cap f a k c p ⟨6, 0, 0, 0, [], false, st, 0⟩) (hst : noneC f st = 150) (hl : a < n) (D : Nat) (V : Int) (hD : cntD digitB f n 3 (a + 1) = D) (hV : numV f n 3 (a + 1) = V) (hV0 : 0 ≤ V) (hq : hasB f n (a + 1 + D) [44] = false) (hz : ¬ n ≤ a + 1 + D) (hy : ¬ f (a + 1 + D) = 125) :
    Calls Tryz.prog 85 #[.pointer (some ⟨rb, 0, none⟩), .pointer (some ⟨tb, 0, none⟩)] w (REc w rb tb ao n cap f k c p st (.no 150 st)) := by
  have hf := h.rs.ff
  have hv := numV_neg f n 3 (a + 1) hf (by decide)
  have hd := (cntD_le digitB f n 3 (a + 1)).2 hl
  rw [hD] at hd
  rw [hV] at hv
  obtain ⟨-, hv1, hv2⟩ := hv
  have KD : Hid (cntD digitB f n 3 (a + 1) = D) := hD
  have KV : Hid (numV f n 3 (a + 1) = V) := hV
  clear hD hV
  have KQ : Hid (hasB f n (a + 1 + D) [44] = false) := hq
  clear hq
  have KY : Hid (¬ f (a + 1 + D) = 125) := hy
  clear hy
  clear hf
  have S0 := h
  have U0 : T2 rb tb w w := lin.Turns.refl _ w
  have hne : ¬ tb = rb := h.ne
  have hne' : ¬ rb = tb := fun e => h.ne e.symm
  have hn := h.rs.nn
  have ha := h.rs.aa
  have hcc := h.rs.cc
  have hcm := h.rs.cm
  clear h
  obtain ⟨⟨c0, c1, c2, z1, z2⟩, ⟨k0, k1, k2, k3, k4, k5, k6, k7⟩, ⟨f0, f1, f2, f3, f4, f5, f6, f7⟩⟩ := S0.cells
  go_enter Tryz.func85, Tryz.ntmps85
  have S1 := S0.put1 (x := ((a : Nat) : Int) + 1) (a' := a + 1) (by omega) (by omega)
  have U1 := T2.at U0 1 (.int .i64 (((a : Nat) : Int) + 1))
  clear S0 U0
  have C := number_t S1 U1 3 (by decide)
  go_wp2_with fail
  refine C.mono ?_
  rintro e w2 ⟨rfl, S2, U2⟩
  clear C S1 U1
  clear c0 c1 c2 z1 z2 k0 k1 k2 k3 k4 k5 k6 k7 f0 f1 f2 f3 f4 f5 f6 f7
  obtain ⟨⟨c0, c1, c2, z1, z2⟩, ⟨k0, k1, k2, k3, k4, k5, k6, k7⟩, ⟨f0, f1, f2, f3, f4, f5, f6, f7⟩⟩ := S2.cells
  rw [KD.out] at S2
  rw [KV.out]
  clear c0 c1 c2 z1 z2 k0 k1 k2 k3 k4 k5 k6 k7 f0 f1 f2 f3 f4 f5 f6 f7
  obtain ⟨⟨c0, c1, c2, z1, z2⟩, ⟨k0, k1, k2, k3, k4, k5, k6, k7⟩, ⟨f0, f1, f2, f3, f4, f5, f6, f7⟩⟩ := S2.cells
  have S3 := S2.t2 V
  have U3 := T2.put U2 2 (.int .i64 V)
  clear S2 U2
  have S4 := S3.t3 V
  have U4 := T2.put U3 3 (.int .i64 V)
  clear S3 U3
  have C := has_t S4 U4 [44] (by decide) (by decide)
  rw [KQ.out] at C
  go_wp2_with fail
  refine C.mono ?_
  rintro e w5 ⟨rfl, S5, U5⟩
  clear C S4 U4
  clear c0 c1 c2 z1 z2 k0 k1 k2 k3 k4 k5 k6 k7 f0 f1 f2 f3 f4 f5 f6 f7
  obtain ⟨⟨c0, c1, c2, z1, z2⟩, ⟨k0, k1, k2, k3, k4, k5, k6, k7⟩, ⟨f0, f1, f2, f3, f4, f5, f6, f7⟩⟩ := S5.cells
  have hz2 : 0 < n - (a + 1 + D) := by omega
  have hz3 : ¬ n - (a + 1 + D) = 0 := by omega
  have hz4 : (((n - (a + 1 + D) : Nat) : Int) == 0) = false := by simp; omega
  have hel : a + 1 + D < n := by omega
  have C := rest_t S5 U5
  go_wp2_with fail
  refine C.mono ?_
  rintro e w6 ⟨rfl, S6, U6⟩
  clear C S5 U5
  clear c0 c1 c2 z1 z2 k0 k1 k2 k3 k4 k5 k6 k7 f0 f1 f2 f3 f4 f5 f6 f7
  obtain ⟨⟨c0, c1, c2, z1, z2⟩, ⟨k0, k1, k2, k3, k4, k5, k6, k7⟩, ⟨f0, f1, f2, f3, f4, f5, f6, f7⟩⟩ := S6.cells
  obtain ⟨bb, off, rfl, hbb, hcb⟩ := S6.rs.byt
  have cx := hcb (a + 1 + D) hel
  clear hcb
  have RE : ∀ q, Calls Tryz.prog 44 #[.pointer (some ⟨rb, 0, none⟩)] (w6.drewN q) fun e w' => e = .returned (.slice (some ⟨bb, off + (a + 1 + D), none⟩) (n - (a + 1 + D)) (cap - (a + 1 + D))) ∧ ∃ q', w' = w6.drewN (q + q') := fun q => (rest_any rb _ n cap f (a + 1 + D) k c p (w6.drewN q) (S6.rs.drewN q)).mono fun e w' h => by
    obtain ⟨q', h1, h2⟩ := h
    rw [rA_lt bb off (a + 1 + D) cap (by omega)] at h1
    exact ⟨h1, q', by rw [h2, World.drewN_drewN]⟩
  have RE0 : Calls Tryz.prog 44 #[.pointer (some ⟨rb, 0, none⟩)] w6 fun e w' => e = .returned (.slice (some ⟨bb, off + (a + 1 + D), none⟩) (n - (a + 1 + D)) (cap - (a + 1 + D))) ∧ ∃ q', w' = w6.drewN q' := (rest_any rb _ n cap f (a + 1 + D) k c p w6 S6.rs).mono fun e w' h => by
    obtain ⟨q', h1, h2⟩ := h
    rw [rA_lt bb off (a + 1 + D) cap (by omega)] at h1
    exact ⟨h1, q', h2⟩
  have hz5 : (0 : Int) < ((n - (a + 1 + D) : Nat) : Int) := by omega
  have hA : ¬ V < 0 := by omega
  have hA2 : decide (V < 0) = false := by simp; omega
  obtain ⟨yy, hyy⟩ : ∃ yy, f (a + 1 + D) = yy := ⟨_, rfl⟩
  have hy := KY.out
  rw [hyy] at cx hy
  clear hyy KY
  have hy2 : (yy == 125) = false := by simp [hy]
  have hy3 : (yy != 125) = true := by simp [hy]
  go_wp2
  go_quiet (first | (exact (RE _).mono fun _ _ h => ⟨h.1, h.2.elim fun q' e => ⟨_, e.trans (by rw [Nat.add_assoc])⟩⟩) | (exact (RE _).mono fun _ _ h => ⟨h.1, h.2.elim fun q' e => ⟨_, e⟩⟩) | (exact RE0.mono fun _ _ h => h))
  have SQ := S6.drewN nq
  have UQ := T2.drewN U6 nq
  have C := fail_t SQ UQ 150 st
  go_wp2_with fail
  refine C.mono ?_
  rintro e w9 ⟨rfl, S9, U9⟩
  clear C
  go_wp2
  go_ret
  exact ⟨rfl, ⟨_, _, S9⟩, U9⟩
end Go.Proofs.YtlgkfnecahgedaaGreatDoor.tok
end

section
/- The document's repetitions by numbers: one number. -/
set_option linter.unusedVariables false
set_option linter.unusedSimpArgs false
namespace Go.Proofs.YtlgkfnecahgedaaGreatDoor.tok
open Go.RowKit
open lin (BA Turns)

set_option maxHeartbeats 4000000 in
set_option maxRecDepth 100000 in
theorem rc_plain_big (rb tb : Nat) (ao : Option Addr) (n cap : Nat) (f : Nat → Int) (a k : Nat) (c p : Int) (st : Nat) (w : World) (h : RT w rb tb ao n cap f a k c p ⟨6, 0, 0, 0, [], false, st, 0⟩) (hst : noneC f st = 150) (hl : a < n) (D : Nat) (V : Int) (hD : cntD digitB f n 3 (a + 1) = D) (hV : numV f n 3 (a + 1) = V) (hV0 : 0 ≤ V) (hq : hasB f n (a + 1 + D) [44] = false) (hz : ¬ n ≤ a + 1 + D) (hy : f (a + 1 + D) = 125) (hx : 100 < V) :
    Calls Tryz.prog 85 #[.pointer (some ⟨rb, 0, none⟩), .pointer (some ⟨tb, 0, none⟩)] w (REc w rb tb ao n cap f k c p st (.no 150 st)) := by
  have hf := h.rs.ff
  have hv := numV_neg f n 3 (a + 1) hf (by decide)
  have hd := (cntD_le digitB f n 3 (a + 1)).2 hl
  rw [hD] at hd
  rw [hV] at hv
  obtain ⟨-, hv1, hv2⟩ := hv
  have KD : Hid (cntD digitB f n 3 (a + 1) = D) := hD
  have KV : Hid (numV f n 3 (a + 1) = V) := hV
  clear hD hV
  have KQ : Hid (hasB f n (a + 1 + D) [44] = false) := hq
  clear hq
  have KY : Hid (f (a + 1 + D) = 125) := hy
  clear hy
  clear hf
  have S0 := h
  have U0 : T2 rb tb w w := lin.Turns.refl _ w
  have hne : ¬ tb = rb := h.ne
  have hne' : ¬ rb = tb := fun e => h.ne e.symm
  have hn := h.rs.nn
  have ha := h.rs.aa
  have hcc := h.rs.cc
  have hcm := h.rs.cm
  clear h
  obtain ⟨⟨c0, c1, c2, z1, z2⟩, ⟨k0, k1, k2, k3, k4, k5, k6, k7⟩, ⟨f0, f1, f2, f3, f4, f5, f6, f7⟩⟩ := S0.cells
  go_enter Tryz.func85, Tryz.ntmps85
  have S1 := S0.put1 (x := ((a : Nat) : Int) + 1) (a' := a + 1) (by omega) (by omega)
  have U1 := T2.at U0 1 (.int .i64 (((a : Nat) : Int) + 1))
  clear S0 U0
  have C := number_t S1 U1 3 (by decide)
  go_wp2_with fail
  refine C.mono ?_
  rintro e w2 ⟨rfl, S2, U2⟩
  clear C S1 U1
  clear c0 c1 c2 z1 z2 k0 k1 k2 k3 k4 k5 k6 k7 f0 f1 f2 f3 f4 f5 f6 f7
  obtain ⟨⟨c0, c1, c2, z1, z2⟩, ⟨k0, k1, k2, k3, k4, k5, k6, k7⟩, ⟨f0, f1, f2, f3, f4, f5, f6, f7⟩⟩ := S2.cells
  rw [KD.out] at S2
  rw [KV.out]
  clear c0 c1 c2 z1 z2 k0 k1 k2 k3 k4 k5 k6 k7 f0 f1 f2 f3 f4 f5 f6 f7
  obtain ⟨⟨c0, c1, c2, z1, z2⟩, ⟨k0, k1, k2, k3, k4, k5, k6, k7⟩, ⟨f0, f1, f2, f3, f4, f5, f6, f7⟩⟩ := S2.cells
  have S3 := S2.t2 V
  have U3 := T2.put U2 2 (.int .i64 V)
  clear S2 U2
  have S4 := S3.t3 V
  have U4 := T2.put U3 3 (.int .i64 V)
  clear S3 U3
  have C := has_t S4 U4 [44] (by decide) (by decide)
  rw [KQ.out] at C
  go_wp2_with fail
  refine C.mono ?_
  rintro e w5 ⟨rfl, S5, U5⟩
  clear C S4 U4
  clear c0 c1 c2 z1 z2 k0 k1 k2 k3 k4 k5 k6 k7 f0 f1 f2 f3 f4 f5 f6 f7
  obtain ⟨⟨c0, c1, c2, z1, z2⟩, ⟨k0, k1, k2, k3, k4, k5, k6, k7⟩, ⟨f0, f1, f2, f3, f4, f5, f6, f7⟩⟩ := S5.cells
  have hz2 : 0 < n - (a + 1 + D) := by omega
  have hz3 : ¬ n - (a + 1 + D) = 0 := by omega
  have hz4 : (((n - (a + 1 + D) : Nat) : Int) == 0) = false := by simp; omega
  have hel : a + 1 + D < n := by omega
  have C := rest_t S5 U5
  go_wp2_with fail
  refine C.mono ?_
  rintro e w6 ⟨rfl, S6, U6⟩
  clear C S5 U5
  clear c0 c1 c2 z1 z2 k0 k1 k2 k3 k4 k5 k6 k7 f0 f1 f2 f3 f4 f5 f6 f7
  obtain ⟨⟨c0, c1, c2, z1, z2⟩, ⟨k0, k1, k2, k3, k4, k5, k6, k7⟩, ⟨f0, f1, f2, f3, f4, f5, f6, f7⟩⟩ := S6.cells
  obtain ⟨bb, off, rfl, hbb, hcb⟩ := S6.rs.byt
  have cx := hcb (a + 1 + D) hel
  clear hcb
  have RE : ∀ q, Calls Tryz.prog 44 #[.pointer (some ⟨rb, 0, none⟩)] (w6.drewN q) fun e w' => e = .returned (.slice (some ⟨bb, off + (a + 1 + D), none⟩) (n - (a + 1 + D)) (cap - (a + 1 + D))) ∧ ∃ q', w' = w6.drewN (q + q') := fun q => (rest_any rb _ n cap f (a + 1 + D) k c p (w6.drewN q) (S6.rs.drewN q)).mono fun e w' h => by
    obtain ⟨q', h1, h2⟩ := h
    rw [rA_lt bb off (a + 1 + D) cap (by omega)] at h1
    exact ⟨h1, q', by rw [h2, World.drewN_drewN]⟩
  have RE0 : Calls Tryz.prog 44 #[.pointer (some ⟨rb, 0, none⟩)] w6 fun e w' => e = .returned (.slice (some ⟨bb, off + (a + 1 + D), none⟩) (n - (a + 1 + D)) (cap - (a + 1 + D))) ∧ ∃ q', w' = w6.drewN q' := (rest_any rb _ n cap f (a + 1 + D) k c p w6 S6.rs).mono fun e w' h => by
    obtain ⟨q', h1, h2⟩ := h
    rw [rA_lt bb off (a + 1 + D) cap (by omega)] at h1
    exact ⟨h1, q', h2⟩
  have hz5 : (0 : Int) < ((n - (a + 1 + D) : Nat) : Int) := by omega
  have hA : ¬ V < 0 := by omega
  have hA2 : decide (V < 0) = false := by simp; omega
  rw [KY.out] at cx
  clear KY
  go_wp2
  go_quiet (first | (exact (RE _).mono fun _ _ h => ⟨h.1, h.2.elim fun q' e => ⟨_, e.trans (by rw [Nat.add_assoc])⟩⟩) | (exact (RE _).mono fun _ _ h => ⟨h.1, h.2.elim fun q' e => ⟨_, e⟩⟩) | (exact RE0.mono fun _ _ h => h))
  have SQ := S6.drewN nq
  have UQ := T2.drewN U6 nq
  have C := fail_t SQ UQ 150 st
  go_wp2_with fail
  refine C.mono ?_
  rintro e w9 ⟨rfl, S9, U9⟩
  clear C
  go_wp2
  go_ret
  exact ⟨rfl, ⟨_, _, S9⟩, U9⟩
set_option maxHeartbeats 4000000 in
set_option maxRecDepth 100000 in
theorem rc_plain_ok (rb tb : Nat) (ao : Option Addr) (n cap : Nat) (f : Nat → Int) (a k : Nat) (c p : Int) (st : Nat) (w : World) (h : RT w rb tb ao n cap f a k c p ⟨6, 0, 0, 0, [], false, st, 0⟩) (hst : noneC f st = 150) (hl : a < n) (D : Nat) (V : Int) (hD : cntD digitB f n 3 (a + 1) = D) (hV : numV f n 3 (a + 1) = V) (hV0 : 0 ≤ V) (hq : hasB f n (a + 1 + D) [44] = false) (hz : ¬ n ≤ a + 1 + D) (hy : f (a + 1 + D) = 125) (hx : ¬ 100 < V) :
    Calls Tryz.prog 85 #[.pointer (some ⟨rb, 0, none⟩), .pointer (some ⟨tb, 0, none⟩)] w (REc w rb tb ao n cap f k c p st (.ok (V, V) (a + 1 + D + 1))) := by
  have hf := h.rs.ff
  have hv := numV_neg f n 3 (a + 1) hf (by decide)
  have hd := (cntD_le digitB f n 3 (a + 1)).2 hl
  rw [hD] at hd
  rw [hV] at hv
  obtain ⟨-, hv1, hv2⟩ := hv
  have KD : Hid (cntD digitB f n 3 (a + 1) = D) := hD
  have KV : Hid (numV f n 3 (a + 1) = V) := hV
  clear hD hV
  have KQ : Hid (hasB f n (a + 1 + D) [44] = false) := hq
  clear hq
  have KY : Hid (f (a + 1 + D) = 125) := hy
  clear hy
  clear hf
  have S0 := h
  have U0 : T2 rb tb w w := lin.Turns.refl _ w
  have hne : ¬ tb = rb := h.ne
  have hne' : ¬ rb = tb := fun e => h.ne e.symm
  have hn := h.rs.nn
  have ha := h.rs.aa
  have hcc := h.rs.cc
  have hcm := h.rs.cm
  clear h
  obtain ⟨⟨c0, c1, c2, z1, z2⟩, ⟨k0, k1, k2, k3, k4, k5, k6, k7⟩, ⟨f0, f1, f2, f3, f4, f5, f6, f7⟩⟩ := S0.cells
  go_enter Tryz.func85, Tryz.ntmps85
  have S1 := S0.put1 (x := ((a : Nat) : Int) + 1) (a' := a + 1) (by omega) (by omega)
  have U1 := T2.at U0 1 (.int .i64 (((a : Nat) : Int) + 1))
  clear S0 U0
  have C := number_t S1 U1 3 (by decide)
  go_wp2_with fail
  refine C.mono ?_
  rintro e w2 ⟨rfl, S2, U2⟩
  clear C S1 U1
  clear c0 c1 c2 z1 z2 k0 k1 k2 k3 k4 k5 k6 k7 f0 f1 f2 f3 f4 f5 f6 f7
  obtain ⟨⟨c0, c1, c2, z1, z2⟩, ⟨k0, k1, k2, k3, k4, k5, k6, k7⟩, ⟨f0, f1, f2, f3, f4, f5, f6, f7⟩⟩ := S2.cells
  rw [KD.out] at S2
  rw [KV.out]
  clear c0 c1 c2 z1 z2 k0 k1 k2 k3 k4 k5 k6 k7 f0 f1 f2 f3 f4 f5 f6 f7
  obtain ⟨⟨c0, c1, c2, z1, z2⟩, ⟨k0, k1, k2, k3, k4, k5, k6, k7⟩, ⟨f0, f1, f2, f3, f4, f5, f6, f7⟩⟩ := S2.cells
  have S3 := S2.t2 V
  have U3 := T2.put U2 2 (.int .i64 V)
  clear S2 U2
  have S4 := S3.t3 V
  have U4 := T2.put U3 3 (.int .i64 V)
  clear S3 U3
  have C := has_t S4 U4 [44] (by decide) (by decide)
  rw [KQ.out] at C
  go_wp2_with fail
  refine C.mono ?_
  rintro e w5 ⟨rfl, S5, U5⟩
  clear C S4 U4
  clear c0 c1 c2 z1 z2 k0 k1 k2 k3 k4 k5 k6 k7 f0 f1 f2 f3 f4 f5 f6 f7
  obtain ⟨⟨c0, c1, c2, z1, z2⟩, ⟨k0, k1, k2, k3, k4, k5, k6, k7⟩, ⟨f0, f1, f2, f3, f4, f5, f6, f7⟩⟩ := S5.cells
  have hz2 : 0 < n - (a + 1 + D) := by omega
  have hz3 : ¬ n - (a + 1 + D) = 0 := by omega
  have hz4 : (((n - (a + 1 + D) : Nat) : Int) == 0) = false := by simp; omega
  have hel : a + 1 + D < n := by omega
  have C := rest_t S5 U5
  go_wp2_with fail
  refine C.mono ?_
  rintro e w6 ⟨rfl, S6, U6⟩
  clear C S5 U5
  clear c0 c1 c2 z1 z2 k0 k1 k2 k3 k4 k5 k6 k7 f0 f1 f2 f3 f4 f5 f6 f7
  obtain ⟨⟨c0, c1, c2, z1, z2⟩, ⟨k0, k1, k2, k3, k4, k5, k6, k7⟩, ⟨f0, f1, f2, f3, f4, f5, f6, f7⟩⟩ := S6.cells
  obtain ⟨bb, off, rfl, hbb, hcb⟩ := S6.rs.byt
  have cx := hcb (a + 1 + D) hel
  clear hcb
  have RE : ∀ q, Calls Tryz.prog 44 #[.pointer (some ⟨rb, 0, none⟩)] (w6.drewN q) fun e w' => e = .returned (.slice (some ⟨bb, off + (a + 1 + D), none⟩) (n - (a + 1 + D)) (cap - (a + 1 + D))) ∧ ∃ q', w' = w6.drewN (q + q') := fun q => (rest_any rb _ n cap f (a + 1 + D) k c p (w6.drewN q) (S6.rs.drewN q)).mono fun e w' h => by
    obtain ⟨q', h1, h2⟩ := h
    rw [rA_lt bb off (a + 1 + D) cap (by omega)] at h1
    exact ⟨h1, q', by rw [h2, World.drewN_drewN]⟩
  have RE0 : Calls Tryz.prog 44 #[.pointer (some ⟨rb, 0, none⟩)] w6 fun e w' => e = .returned (.slice (some ⟨bb, off + (a + 1 + D), none⟩) (n - (a + 1 + D)) (cap - (a + 1 + D))) ∧ ∃ q', w' = w6.drewN q' := (rest_any rb _ n cap f (a + 1 + D) k c p w6 S6.rs).mono fun e w' h => by
    obtain ⟨q', h1, h2⟩ := h
    rw [rA_lt bb off (a + 1 + D) cap (by omega)] at h1
    exact ⟨h1, q', h2⟩
  have hz5 : (0 : Int) < ((n - (a + 1 + D) : Nat) : Int) := by omega
  have hA : ¬ V < 0 := by omega
  have hA2 : decide (V < 0) = false := by simp; omega
  rw [KY.out] at cx
  clear KY
  have hb3 : 0 ≤ V := by omega
  have hb4 : ¬ V < V := by omega
  go_wp2
  go_quiet (first | (exact (RE _).mono fun _ _ h => ⟨h.1, h.2.elim fun q' e => ⟨_, e.trans (by rw [Nat.add_assoc])⟩⟩) | (exact (RE _).mono fun _ _ h => ⟨h.1, h.2.elim fun q' e => ⟨_, e⟩⟩) | (exact RE0.mono fun _ _ h => h))
  have SQ := (S6.drewN nq).put1 (x := ((a + 1 + D : Nat) : Int) + 1) (a' := a + 1 + D + 1) (by omega) (by omega)
  have UQ := T2.at (T2.drewN U6 nq) 1 (.int .i64 (((a + 1 + D : Nat) : Int) + 1))
  go_wp2
  go_ret
  exact ⟨rfl, SQ, UQ⟩
end Go.Proofs.YtlgkfnecahgedaaGreatDoor.tok
end
