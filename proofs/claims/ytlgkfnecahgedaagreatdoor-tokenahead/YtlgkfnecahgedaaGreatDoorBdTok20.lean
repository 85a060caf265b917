/- Texts that the proof leans on, one behind the other. -/
import Derived.Test.YtlgkfnecahgedaaGreatDoorBdTok18
import Derived.Test.YtlgkfnecahgedaaGreatDoorBdTok14
import Derived.Test.YtlgkfnecahgedaaGreatDoorBdTok15
import Derived.Test.YtlgkfnecahgedaaGreatDoorBdTok19

section
/- The document's marks outside of classes. -/
set_option linter.unusedVariables false
set_option linter.unusedSimpArgs false
namespace Go.Proofs.YtlgkfnecahgedaaGreatDoor.tok
open Go.RowKit
open lin (BA Turns)

theorem rest_b {w W : World} {rb tb : Nat} {ao : Option Addr} {n cap : Nat} {f : Nat → Int} {a k : Nat} {c p : Int} {t : Tk} (S : RT W rb tb ao n cap f a k c p t) (T : T2 rb tb w W) (ha : a < n) (x : Int) (hx : f a = x) :
    Calls Tryz.prog 44 #[.pointer (some ⟨rb, 0, none⟩)] W fun e w' => ∃ gb go, e = .returned (.slice (some ⟨gb, go, none⟩) (n - a) (cap - a)) ∧ w'.cell? ⟨gb, go, none⟩ = some (.int .u8 x) ∧ gb ≠ rb ∧ gb ≠ tb ∧ RT w' rb tb ao n cap f a k c p t ∧ T2 rb tb w w' := by
  subst hx; exact rest_lt S T ha
set_option maxHeartbeats 4000000 in
set_option maxRecDepth 100000 in
theorem rmk_dot (rb tb : Nat) (ao : Option Addr) (n cap : Nat) (f : Nat → Int) (a k : Nat) (c p : Int) (st : Nat) (w : World) (h : RT w rb tb ao n cap f a k c p ⟨0, 0, 0, 0, [], false, st, 0⟩) (hl : a < n) (hx : f a = 46) :
    Calls Tryz.prog 26 #[.pointer (some ⟨rb, 0, none⟩), .pointer (some ⟨tb, 0, none⟩)] w (ROt w rb tb ao n cap f k c p st (.ok (bare 2) (a + 1))) := by
  have hz2 : 0 < n - a := by omega
  have hz5 : (0 : Int) < ((n - a : Nat) : Int) := by omega
  have hne : ¬ tb = rb := h.ne
  have hne' : ¬ rb = tb := fun e => h.ne e.symm
  have hn := h.rs.nn
  have ha := h.rs.aa
  have hcc := h.rs.cc
  have hcm := h.rs.cm
  have S0 := h
  have U0 : T2 rb tb w w := lin.Turns.refl _ w
  clear h
  obtain ⟨⟨c0, c1, c2, z1, z2⟩, ⟨k0, k1, k2, k3, k4, k5, k6, k7⟩, ⟨f0, f1, f2, f3, f4, f5, f6, f7⟩⟩ := S0.cells
  go_enter Tryz.func26, Tryz.ntmps26
  have C := rest_b S0 U0 hl 46 hx
  go_wp2_with fail
  refine C.mono ?_
  rintro e w1 ⟨gb1, go1, rfl, cx1, hg1, hh1, S1, U1⟩
  clear C S0 U0
  clear c0 c1 c2 z1 z2 k0 k1 k2 k3 k4 k5 k6 k7 f0 f1 f2 f3 f4 f5 f6 f7
  obtain ⟨⟨c0, c1, c2, z1, z2⟩, ⟨k0, k1, k2, k3, k4, k5, k6, k7⟩, ⟨f0, f1, f2, f3, f4, f5, f6, f7⟩⟩ := S1.cells
  have S2 := S1.t0 2
  have U2 := T2.put U1 0 (.int .i64 2)
  clear S1 U1
  have S3 := S2.put1 (x := ((a : Nat) : Int) + 1) (a' := a + 1) (by omega) (by omega)
  have U3 := T2.at U2 1 (.int .i64 (((a : Nat) : Int) + 1))
  clear S2 U2
  go_wp2
  go_ret2
  exact ⟨rfl, S3, U3⟩
set_option maxHeartbeats 4000000 in
set_option maxRecDepth 100000 in
theorem rmk_bar (rb tb : Nat) (ao : Option Addr) (n cap : Nat) (f : Nat → Int) (a k : Nat) (c p : Int) (st : Nat) (w : World) (h : RT w rb tb ao n cap f a k c p ⟨0, 0, 0, 0, [], false, st, 0⟩) (hl : a < n) (hx : f a = 124) :
    Calls Tryz.prog 26 #[.pointer (some ⟨rb, 0, none⟩), .pointer (some ⟨tb, 0, none⟩)] w (ROt w rb tb ao n cap f k c p st (.ok (bare 5) (a + 1))) := by
  have hz2 : 0 < n - a := by omega
  have hz5 : (0 : Int) < ((n - a : Nat) : Int) := by omega
  have hne : ¬ tb = rb := h.ne
  have hne' : ¬ rb = tb := fun e => h.ne e.symm
  have hn := h.rs.nn
  have ha := h.rs.aa
  have hcc := h.rs.cc
  have hcm := h.rs.cm
  have S0 := h
  have U0 : T2 rb tb w w := lin.Turns.refl _ w
  clear h
  obtain ⟨⟨c0, c1, c2, z1, z2⟩, ⟨k0, k1, k2, k3, k4, k5, k6, k7⟩, ⟨f0, f1, f2, f3, f4, f5, f6, f7⟩⟩ := S0.cells
  go_enter Tryz.func26, Tryz.ntmps26
  have C := rest_b S0 U0 hl 124 hx
  go_wp2_with fail
  refine C.mono ?_
  rintro e w1 ⟨gb1, go1, rfl, cx1, hg1, hh1, S1, U1⟩
  clear C S0 U0
  clear c0 c1 c2 z1 z2 k0 k1 k2 k3 k4 k5 k6 k7 f0 f1 f2 f3 f4 f5 f6 f7
  obtain ⟨⟨c0, c1, c2, z1, z2⟩, ⟨k0, k1, k2, k3, k4, k5, k6, k7⟩, ⟨f0, f1, f2, f3, f4, f5, f6, f7⟩⟩ := S1.cells
  have S2 := S1.t0 5
  have U2 := T2.put U1 0 (.int .i64 5)
  clear S1 U1
  have S3 := S2.put1 (x := ((a : Nat) : Int) + 1) (a' := a + 1) (by omega) (by omega)
  have U3 := T2.at U2 1 (.int .i64 (((a : Nat) : Int) + 1))
  clear S2 U2
  go_wp2
  go_ret2
  exact ⟨rfl, S3, U3⟩
set_option maxHeartbeats 4000000 in
set_option maxRecDepth 100000 in
theorem rmk_shut (rb tb : Nat) (ao : Option Addr) (n cap : Nat) (f : Nat → Int) (a k : Nat) (c p : Int) (st : Nat) (w : World) (h : RT w rb tb ao n cap f a k c p ⟨0, 0, 0, 0, [], false, st, 0⟩) (hl : a < n) (hx : f a = 41) :
    Calls Tryz.prog 26 #[.pointer (some ⟨rb, 0, none⟩), .pointer (some ⟨tb, 0, none⟩)] w (ROt w rb tb ao n cap f k c p st (.ok (bare 4) (a + 1))) := by
  have hz2 : 0 < n - a := by omega
  have hz5 : (0 : Int) < ((n - a : Nat) : Int) := by omega
  have hne : ¬ tb = rb := h.ne
  have hne' : ¬ rb = tb := fun e => h.ne e.symm
  have hn := h.rs.nn
  have ha := h.rs.aa
  have hcc := h.rs.cc
  have hcm := h.rs.cm
  have S0 := h
  have U0 : T2 rb tb w w := lin.Turns.refl _ w
  clear h
  obtain ⟨⟨c0, c1, c2, z1, z2⟩, ⟨k0, k1, k2, k3, k4, k5, k6, k7⟩, ⟨f0, f1, f2, f3, f4, f5, f6, f7⟩⟩ := S0.cells
  go_enter Tryz.func26, Tryz.ntmps26
  have C := rest_b S0 U0 hl 41 hx
  go_wp2_with fail
  refine C.mono ?_
  rintro e w1 ⟨gb1, go1, rfl, cx1, hg1, hh1, S1, U1⟩
  clear C S0 U0
  clear c0 c1 c2 z1 z2 k0 k1 k2 k3 k4 k5 k6 k7 f0 f1 f2 f3 f4 f5 f6 f7
  obtain ⟨⟨c0, c1, c2, z1, z2⟩, ⟨k0, k1, k2, k3, k4, k5, k6, k7⟩, ⟨f0, f1, f2, f3, f4, f5, f6, f7⟩⟩ := S1.cells
  have S2 := S1.t0 4
  have U2 := T2.put U1 0 (.int .i64 4)
  clear S1 U1
  have S3 := S2.put1 (x := ((a : Nat) : Int) + 1) (a' := a + 1) (by omega) (by omega)
  have U3 := T2.at U2 1 (.int .i64 (((a : Nat) : Int) + 1))
  clear S2 U2
  go_wp2
  go_ret2
  exact ⟨rfl, S3, U3⟩
set_option maxHeartbeats 4000000 in
set_option maxRecDepth 100000 in
theorem rmk_hat (rb tb : Nat) (ao : Option Addr) (n cap : Nat) (f : Nat → Int) (a k : Nat) (c p : Int) (st : Nat) (w : World) (h : RT w rb tb ao n cap f a k c p ⟨0, 0, 0, 0, [], false, st, 0⟩) (hl : a < n) (hx : f a = 94) :
    Calls Tryz.prog 26 #[.pointer (some ⟨rb, 0, none⟩), .pointer (some ⟨tb, 0, none⟩)] w (ROt w rb tb ao n cap f k c p st (.ok (asrt 1) (a + 1))) := by
  have hz2 : 0 < n - a := by omega
  have hz5 : (0 : Int) < ((n - a : Nat) : Int) := by omega
  have hne : ¬ tb = rb := h.ne
  have hne' : ¬ rb = tb := fun e => h.ne e.symm
  have hn := h.rs.nn
  have ha := h.rs.aa
  have hcc := h.rs.cc
  have hcm := h.rs.cm
  have S0 := h
  have U0 : T2 rb tb w w := lin.Turns.refl _ w
  clear h
  obtain ⟨⟨c0, c1, c2, z1, z2⟩, ⟨k0, k1, k2, k3, k4, k5, k6, k7⟩, ⟨f0, f1, f2, f3, f4, f5, f6, f7⟩⟩ := S0.cells
  go_enter Tryz.func26, Tryz.ntmps26
  have C := rest_b S0 U0 hl 94 hx
  go_wp2_with fail
  refine C.mono ?_
  rintro e w1 ⟨gb1, go1, rfl, cx1, hg1, hh1, S1, U1⟩
  clear C S0 U0
  clear c0 c1 c2 z1 z2 k0 k1 k2 k3 k4 k5 k6 k7 f0 f1 f2 f3 f4 f5 f6 f7
  obtain ⟨⟨c0, c1, c2, z1, z2⟩, ⟨k0, k1, k2, k3, k4, k5, k6, k7⟩, ⟨f0, f1, f2, f3, f4, f5, f6, f7⟩⟩ := S1.cells
  have S2 := S1.t0 7
  have U2 := T2.put U1 0 (.int .i64 7)
  clear S1 U1
  have S3 := S2.t1 1
  have U3 := T2.put U2 1 (.int .i64 1)
  clear S2 U2
  have C := rest_b S3 U3 hl 94 hx
  go_wp2_with fail
  refine C.mono ?_
  rintro e w4 ⟨gb4, go4, rfl, cx4, hg4, hh4, S4, U4⟩
  clear C S3 U3
  clear c0 c1 c2 z1 z2 k0 k1 k2 k3 k4 k5 k6 k7 f0 f1 f2 f3 f4 f5 f6 f7
  obtain ⟨⟨c0, c1, c2, z1, z2⟩, ⟨k0, k1, k2, k3, k4, k5, k6, k7⟩, ⟨f0, f1, f2, f3, f4, f5, f6, f7⟩⟩ := S4.cells
  have S5 := S4.put1 (x := ((a : Nat) : Int) + 1) (a' := a + 1) (by omega) (by omega)
  have U5 := T2.at U4 1 (.int .i64 (((a : Nat) : Int) + 1))
  clear S4 U4
  go_wp2
  go_ret2
  exact ⟨rfl, S5, U5⟩
set_option maxHeartbeats 4000000 in
set_option maxRecDepth 100000 in
theorem rmk_dollar (rb tb : Nat) (ao : Option Addr) (n cap : Nat) (f : Nat → Int) (a k : Nat) (c p : Int) (st : Nat) (w : World) (h : RT w rb tb ao n cap f a k c p ⟨0, 0, 0, 0, [], false, st, 0⟩) (hl : a < n) (hx : f a = 36) :
    Calls Tryz.prog 26 #[.pointer (some ⟨rb, 0, none⟩), .pointer (some ⟨tb, 0, none⟩)] w (ROt w rb tb ao n cap f k c p st (.ok (asrt 2) (a + 1))) := by
  have hz2 : 0 < n - a := by omega
  have hz5 : (0 : Int) < ((n - a : Nat) : Int) := by omega
  have hne : ¬ tb = rb := h.ne
  have hne' : ¬ rb = tb := fun e => h.ne e.symm
  have hn := h.rs.nn
  have ha := h.rs.aa
  have hcc := h.rs.cc
  have hcm := h.rs.cm
  have S0 := h
  have U0 : T2 rb tb w w := lin.Turns.refl _ w
  clear h
  obtain ⟨⟨c0, c1, c2, z1, z2⟩, ⟨k0, k1, k2, k3, k4, k5, k6, k7⟩, ⟨f0, f1, f2, f3, f4, f5, f6, f7⟩⟩ := S0.cells
  go_enter Tryz.func26, Tryz.ntmps26
  have C := rest_b S0 U0 hl 36 hx
  go_wp2_with fail
  refine C.mono ?_
  rintro e w1 ⟨gb1, go1, rfl, cx1, hg1, hh1, S1, U1⟩
  clear C S0 U0
  clear c0 c1 c2 z1 z2 k0 k1 k2 k3 k4 k5 k6 k7 f0 f1 f2 f3 f4 f5 f6 f7
  obtain ⟨⟨c0, c1, c2, z1, z2⟩, ⟨k0, k1, k2, k3, k4, k5, k6, k7⟩, ⟨f0, f1, f2, f3, f4, f5, f6, f7⟩⟩ := S1.cells
  have S2 := S1.t0 7
  have U2 := T2.put U1 0 (.int .i64 7)
  clear S1 U1
  have S3 := S2.t1 1
  have U3 := T2.put U2 1 (.int .i64 1)
  clear S2 U2
  have C := rest_b S3 U3 hl 36 hx
  go_wp2_with fail
  refine C.mono ?_
  rintro e w4 ⟨gb4, go4, rfl, cx4, hg4, hh4, S4, U4⟩
  clear C S3 U3
  clear c0 c1 c2 z1 z2 k0 k1 k2 k3 k4 k5 k6 k7 f0 f1 f2 f3 f4 f5 f6 f7
  obtain ⟨⟨c0, c1, c2, z1, z2⟩, ⟨k0, k1, k2, k3, k4, k5, k6, k7⟩, ⟨f0, f1, f2, f3, f4, f5, f6, f7⟩⟩ := S4.cells
  have S5 := S4.t1 2
  have U5 := T2.put U4 1 (.int .i64 2)
  clear S4 U4
  have S6 := S5.put1 (x := ((a : Nat) : Int) + 1) (a' := a + 1) (by omega) (by omega)
  have U6 := T2.at U5 1 (.int .i64 (((a : Nat) : Int) + 1))
  clear S5 U5
  go_wp2
  go_ret2
  exact ⟨rfl, S6, U6⟩
set_option maxHeartbeats 4000000 in
set_option maxRecDepth 100000 in
theorem rmk_open (rb tb : Nat) (ao : Option Addr) (n cap : Nat) (f : Nat → Int) (a k : Nat) (c p : Int) (st : Nat) (w : World) (h : RT w rb tb ao n cap f a k c p ⟨0, 0, 0, 0, [], false, st, 0⟩) (hl : a < n) (hx : f a = 40) (hst : noneC f st = 133) :
    Calls Tryz.prog 26 #[.pointer (some ⟨rb, 0, none⟩), .pointer (some ⟨tb, 0, none⟩)] w (ROt w rb tb ao n cap f k c p st (open_ f n st (a + 1))) := by
  obtain ⟨o, ho⟩ : ∃ o, open_ f n st (a + 1) = o := ⟨_, rfl⟩
  rw [ho]
  have KO : Hid (open_ f n st (a + 1) = o) := ho
  clear ho
  have hz2 : 0 < n - a := by omega
  have hz5 : (0 : Int) < ((n - a : Nat) : Int) := by omega
  have hne : ¬ tb = rb := h.ne
  have hne' : ¬ rb = tb := fun e => h.ne e.symm
  have hn := h.rs.nn
  have ha := h.rs.aa
  have hcc := h.rs.cc
  have hcm := h.rs.cm
  have S0 := h
  have U0 : T2 rb tb w w := lin.Turns.refl _ w
  clear h
  obtain ⟨⟨c0, c1, c2, z1, z2⟩, ⟨k0, k1, k2, k3, k4, k5, k6, k7⟩, ⟨f0, f1, f2, f3, f4, f5, f6, f7⟩⟩ := S0.cells
  go_enter Tryz.func26, Tryz.ntmps26
  have C := rest_b S0 U0 hl 40 hx
  go_wp2_with fail
  refine C.mono ?_
  rintro e w1 ⟨gb1, go1, rfl, cx1, hg1, hh1, S1, U1⟩
  clear C S0 U0
  clear c0 c1 c2 z1 z2 k0 k1 k2 k3 k4 k5 k6 k7 f0 f1 f2 f3 f4 f5 f6 f7
  obtain ⟨⟨c0, c1, c2, z1, z2⟩, ⟨k0, k1, k2, k3, k4, k5, k6, k7⟩, ⟨f0, f1, f2, f3, f4, f5, f6, f7⟩⟩ := S1.cells
  have C := ropen rb tb ao n cap f a k c p st w1 S1 hst hl
  rw [KO.out] at C
  clear KO
  go_wp2_with fail
  refine C.mono ?_
  clear C
  cases o with
  | ok t1 a1 =>
    rintro e w9 ⟨rfl, S9, U9⟩
    go_wp2
    go_ret2
    exact ⟨rfl, S9, lin.Turns.trans U1 U9⟩
  | no cc1 pp1 =>
    rintro e w9 ⟨rfl, S9, U9⟩
    go_wp2
    go_ret2
    exact ⟨rfl, S9, lin.Turns.trans U1 U9⟩
set_option maxHeartbeats 4000000 in
set_option maxRecDepth 100000 in
theorem rmk_star (rb tb : Nat) (ao : Option Addr) (n cap : Nat) (f : Nat → Int) (a k : Nat) (c p : Int) (st : Nat) (w : World) (h : RT w rb tb ao n cap f a k c p ⟨0, 0, 0, 0, [], false, st, 0⟩) (hl : a < n) (hx : f a = 42) :
    Calls Tryz.prog 26 #[.pointer (some ⟨rb, 0, none⟩), .pointer (some ⟨tb, 0, none⟩)] w (ROt w rb tb ao n cap f k c p st (rep f n 0 (-1) (a + 1))) := by
  obtain ⟨o, ho⟩ : ∃ o, rep f n 0 (-1) (a + 1) = o := ⟨_, rfl⟩
  rw [ho]
  have KO : Hid (rep f n 0 (-1) (a + 1) = o) := ho
  clear ho
  have hz2 : 0 < n - a := by omega
  have hz5 : (0 : Int) < ((n - a : Nat) : Int) := by omega
  have hne : ¬ tb = rb := h.ne
  have hne' : ¬ rb = tb := fun e => h.ne e.symm
  have hn := h.rs.nn
  have ha := h.rs.aa
  have hcc := h.rs.cc
  have hcm := h.rs.cm
  have S0 := h
  have U0 : T2 rb tb w w := lin.Turns.refl _ w
  clear h
  obtain ⟨⟨c0, c1, c2, z1, z2⟩, ⟨k0, k1, k2, k3, k4, k5, k6, k7⟩, ⟨f0, f1, f2, f3, f4, f5, f6, f7⟩⟩ := S0.cells
  go_enter Tryz.func26, Tryz.ntmps26
  have C := rest_b S0 U0 hl 42 hx
  go_wp2_with fail
  refine C.mono ?_
  rintro e w1 ⟨gb1, go1, rfl, cx1, hg1, hh1, S1, U1⟩
  clear C S0 U0
  clear c0 c1 c2 z1 z2 k0 k1 k2 k3 k4 k5 k6 k7 f0 f1 f2 f3 f4 f5 f6 f7
  obtain ⟨⟨c0, c1, c2, z1, z2⟩, ⟨k0, k1, k2, k3, k4, k5, k6, k7⟩, ⟨f0, f1, f2, f3, f4, f5, f6, f7⟩⟩ := S1.cells
  have C := rrep_star rb tb ao n cap f a k c p _ st w1 S1 rfl hl hx
  rw [KO.out] at C
  clear KO
  go_wp2_with fail
  refine C.mono ?_
  clear C
  cases o with
  | ok t1 a1 =>
    rintro e w9 ⟨rfl, S9, U9⟩
    go_wp2
    go_ret2
    exact ⟨rfl, S9, lin.Turns.trans U1 U9⟩
  | no cc1 pp1 =>
    rintro e w9 ⟨rfl, S9, U9⟩
    go_wp2
    go_ret2
    exact ⟨rfl, S9, lin.Turns.trans U1 U9⟩
set_option maxHeartbeats 4000000 in
set_option maxRecDepth 100000 in
theorem rmk_plus (rb tb : Nat) (ao : Option Addr) (n cap : Nat) (f : Nat → Int) (a k : Nat) (c p : Int) (st : Nat) (w : World) (h : RT w rb tb ao n cap f a k c p ⟨0, 0, 0, 0, [], false, st, 0⟩) (hl : a < n) (hx : f a = 43) :
    Calls Tryz.prog 26 #[.pointer (some ⟨rb, 0, none⟩), .pointer (some ⟨tb, 0, none⟩)] w (ROt w rb tb ao n cap f k c p st (rep f n 1 (-1) (a + 1))) := by
  obtain ⟨o, ho⟩ : ∃ o, rep f n 1 (-1) (a + 1) = o := ⟨_, rfl⟩
  rw [ho]
  have KO : Hid (rep f n 1 (-1) (a + 1) = o) := ho
  clear ho
  have hz2 : 0 < n - a := by omega
  have hz5 : (0 : Int) < ((n - a : Nat) : Int) := by omega
  have hne : ¬ tb = rb := h.ne
  have hne' : ¬ rb = tb := fun e => h.ne e.symm
  have hn := h.rs.nn
  have ha := h.rs.aa
  have hcc := h.rs.cc
  have hcm := h.rs.cm
  have S0 := h
  have U0 : T2 rb tb w w := lin.Turns.refl _ w
  clear h
  obtain ⟨⟨c0, c1, c2, z1, z2⟩, ⟨k0, k1, k2, k3, k4, k5, k6, k7⟩, ⟨f0, f1, f2, f3, f4, f5, f6, f7⟩⟩ := S0.cells
  go_enter Tryz.func26, Tryz.ntmps26
  have C := rest_b S0 U0 hl 43 hx
  go_wp2_with fail
  refine C.mono ?_
  rintro e w1 ⟨gb1, go1, rfl, cx1, hg1, hh1, S1, U1⟩
  clear C S0 U0
  clear c0 c1 c2 z1 z2 k0 k1 k2 k3 k4 k5 k6 k7 f0 f1 f2 f3 f4 f5 f6 f7
  obtain ⟨⟨c0, c1, c2, z1, z2⟩, ⟨k0, k1, k2, k3, k4, k5, k6, k7⟩, ⟨f0, f1, f2, f3, f4, f5, f6, f7⟩⟩ := S1.cells
  have C := rrep_plus rb tb ao n cap f a k c p _ st w1 S1 rfl hl hx
  rw [KO.out] at C
  clear KO
  go_wp2_with fail
  refine C.mono ?_
  clear C
  cases o with
  | ok t1 a1 =>
    rintro e w9 ⟨rfl, S9, U9⟩
    go_wp2
    go_ret2
    exact ⟨rfl, S9, lin.Turns.trans U1 U9⟩
  | no cc1 pp1 =>
    rintro e w9 ⟨rfl, S9, U9⟩
    go_wp2
    go_ret2
    exact ⟨rfl, S9, lin.Turns.trans U1 U9⟩
set_option maxHeartbeats 4000000 in
set_option maxRecDepth 100000 in
theorem rmk_ask (rb tb : Nat) (ao : Option Addr) (n cap : Nat) (f : Nat → Int) (a k : Nat) (c p : Int) (st : Nat) (w : World) (h : RT w rb tb ao n cap f a k c p ⟨0, 0, 0, 0, [], false, st, 0⟩) (hl : a < n) (hx : f a = 63) :
    Calls Tryz.prog 26 #[.pointer (some ⟨rb, 0, none⟩), .pointer (some ⟨tb, 0, none⟩)] w (ROt w rb tb ao n cap f k c p st (rep f n 0 1 (a + 1))) := by
  obtain ⟨o, ho⟩ : ∃ o, rep f n 0 1 (a + 1) = o := ⟨_, rfl⟩
  rw [ho]
  have KO : Hid (rep f n 0 1 (a + 1) = o) := ho
  clear ho
  have hz2 : 0 < n - a := by omega
  have hz5 : (0 : Int) < ((n - a : Nat) : Int) := by omega
  have hne : ¬ tb = rb := h.ne
  have hne' : ¬ rb = tb := fun e => h.ne e.symm
  have hn := h.rs.nn
  have ha := h.rs.aa
  have hcc := h.rs.cc
  have hcm := h.rs.cm
  have S0 := h
  have U0 : T2 rb tb w w := lin.Turns.refl _ w
  clear h
  obtain ⟨⟨c0, c1, c2, z1, z2⟩, ⟨k0, k1, k2, k3, k4, k5, k6, k7⟩, ⟨f0, f1, f2, f3, f4, f5, f6, f7⟩⟩ := S0.cells
  go_enter Tryz.func26, Tryz.ntmps26
  have C := rest_b S0 U0 hl 63 hx
  go_wp2_with fail
  refine C.mono ?_
  rintro e w1 ⟨gb1, go1, rfl, cx1, hg1, hh1, S1, U1⟩
  clear C S0 U0
  clear c0 c1 c2 z1 z2 k0 k1 k2 k3 k4 k5 k6 k7 f0 f1 f2 f3 f4 f5 f6 f7
  obtain ⟨⟨c0, c1, c2, z1, z2⟩, ⟨k0, k1, k2, k3, k4, k5, k6, k7⟩, ⟨f0, f1, f2, f3, f4, f5, f6, f7⟩⟩ := S1.cells
  have C := rrep_ask rb tb ao n cap f a k c p _ st w1 S1 rfl hl hx
  rw [KO.out] at C
  clear KO
  go_wp2_with fail
  refine C.mono ?_
  clear C
  cases o with
  | ok t1 a1 =>
    rintro e w9 ⟨rfl, S9, U9⟩
    go_wp2
    go_ret2
    exact ⟨rfl, S9, lin.Turns.trans U1 U9⟩
  | no cc1 pp1 =>
    rintro e w9 ⟨rfl, S9, U9⟩
    go_wp2
    go_ret2
    exact ⟨rfl, S9, lin.Turns.trans U1 U9⟩
set_option maxHeartbeats 4000000 in
set_option maxRecDepth 100000 in
theorem rmk_counts (rb tb : Nat) (ao : Option Addr) (n cap : Nat) (f : Nat → Int) (a k : Nat) (c p : Int) (st : Nat) (w : World) (h : RT w rb tb ao n cap f a k c p ⟨0, 0, 0, 0, [], false, st, 0⟩) (hl : a < n) (hx : f a = 123) (hst : noneC f st = 150) :
    Calls Tryz.prog 26 #[.pointer (some ⟨rb, 0, none⟩), .pointer (some ⟨tb, 0, none⟩)] w (ROt w rb tb ao n cap f k c p st (counted f n st (a + 1))) := by
  obtain ⟨o, ho⟩ : ∃ o, counted f n st (a + 1) = o := ⟨_, rfl⟩
  rw [ho]
  have KO : Hid (counted f n st (a + 1) = o) := ho
  clear ho
  have hz2 : 0 < n - a := by omega
  have hz5 : (0 : Int) < ((n - a : Nat) : Int) := by omega
  have hne : ¬ tb = rb := h.ne
  have hne' : ¬ rb = tb := fun e => h.ne e.symm
  have hn := h.rs.nn
  have ha := h.rs.aa
  have hcc := h.rs.cc
  have hcm := h.rs.cm
  have S0 := h
  have U0 : T2 rb tb w w := lin.Turns.refl _ w
  clear h
  obtain ⟨⟨c0, c1, c2, z1, z2⟩, ⟨k0, k1, k2, k3, k4, k5, k6, k7⟩, ⟨f0, f1, f2, f3, f4, f5, f6, f7⟩⟩ := S0.cells
  go_enter Tryz.func26, Tryz.ntmps26
  have C := rest_b S0 U0 hl 123 hx
  go_wp2_with fail
  refine C.mono ?_
  rintro e w1 ⟨gb1, go1, rfl, cx1, hg1, hh1, S1, U1⟩
  clear C S0 U0
  clear c0 c1 c2 z1 z2 k0 k1 k2 k3 k4 k5 k6 k7 f0 f1 f2 f3 f4 f5 f6 f7
  obtain ⟨⟨c0, c1, c2, z1, z2⟩, ⟨k0, k1, k2, k3, k4, k5, k6, k7⟩, ⟨f0, f1, f2, f3, f4, f5, f6, f7⟩⟩ := S1.cells
  have C := rrep_counts rb tb ao n cap f a k c p _ st w1 S1 rfl hst hl hx
  rw [← counted_ref f n st (a + 1) (by omega) S1.rs.ff, KO.out] at C
  clear KO
  go_wp2_with fail
  refine C.mono ?_
  clear C
  cases o with
  | ok t1 a1 =>
    rintro e w9 ⟨rfl, S9, U9⟩
    go_wp2
    go_ret2
    exact ⟨rfl, S9, lin.Turns.trans U1 U9⟩
  | no cc1 pp1 =>
    rintro e w9 ⟨rfl, S9, U9⟩
    go_wp2
    go_ret2
    exact ⟨rfl, S9, lin.Turns.trans U1 U9⟩
set_option maxHeartbeats 4000000 in
set_option maxRecDepth 100000 in
theorem rmk_none (rb tb : Nat) (ao : Option Addr) (n cap : Nat) (f : Nat → Int) (a k : Nat) (c p : Int) (st : Nat) (w : World) (h : RT w rb tb ao n cap f a k c p ⟨0, 0, 0, 0, [], false, st, 0⟩) (hl : a < n) (x : Int) (hx : f a = x) (n46 : ¬ x = 46) (n124 : ¬ x = 124) (n41 : ¬ x = 41) (n94 : ¬ x = 94) (n36 : ¬ x = 36) (n40 : ¬ x = 40) (n42 : ¬ x = 42) (n43 : ¬ x = 43) (n63 : ¬ x = 63) (n123 : ¬ x = 123) :
    Calls Tryz.prog 26 #[.pointer (some ⟨rb, 0, none⟩), .pointer (some ⟨tb, 0, none⟩)] w (fun e w' => e = .returned (.tuple #[.bool false, .bool true]) ∧ RT w' rb tb ao n cap f a k c p ⟨0, 0, 0, 0, [], false, st, 0⟩ ∧ T2 rb tb w w') := by
  have hz2 : 0 < n - a := by omega
  have hz5 : (0 : Int) < ((n - a : Nat) : Int) := by omega
  have q46 : (x == 46) = false := by simp [n46]
  have q124 : (x == 124) = false := by simp [n124]
  have q41 : (x == 41) = false := by simp [n41]
  have q94 : (x == 94) = false := by simp [n94]
  have q36 : (x == 36) = false := by simp [n36]
  have q40 : (x == 40) = false := by simp [n40]
  have q42 : (x == 42) = false := by simp [n42]
  have q43 : (x == 43) = false := by simp [n43]
  have q63 : (x == 63) = false := by simp [n63]
  have q123 : (x == 123) = false := by simp [n123]
  clear n46 n124 n41 n94 n36 n40 n42 n43 n63 n123
  have hne : ¬ tb = rb := h.ne
  have hne' : ¬ rb = tb := fun e => h.ne e.symm
  have hn := h.rs.nn
  have ha := h.rs.aa
  have hcc := h.rs.cc
  have hcm := h.rs.cm
  have S0 := h
  have U0 : T2 rb tb w w := lin.Turns.refl _ w
  clear h
  obtain ⟨⟨c0, c1, c2, z1, z2⟩, ⟨k0, k1, k2, k3, k4, k5, k6, k7⟩, ⟨f0, f1, f2, f3, f4, f5, f6, f7⟩⟩ := S0.cells
  go_enter Tryz.func26, Tryz.ntmps26
  have C := rest_b S0 U0 hl x hx
  go_wp2_with fail
  refine C.mono ?_
  rintro e w1 ⟨gb1, go1, rfl, cx1, hg1, hh1, S1, U1⟩
  clear C S0 U0
  clear c0 c1 c2 z1 z2 k0 k1 k2 k3 k4 k5 k6 k7 f0 f1 f2 f3 f4 f5 f6 f7
  obtain ⟨⟨c0, c1, c2, z1, z2⟩, ⟨k0, k1, k2, k3, k4, k5, k6, k7⟩, ⟨f0, f1, f2, f3, f4, f5, f6, f7⟩⟩ := S1.cells
  go_wp2
  go_ret2
  exact ⟨rfl, S1, U1⟩
end Go.Proofs.YtlgkfnecahgedaaGreatDoor.tok
end

section
/- The document's escapes: first steps. -/
set_option linter.unusedVariables false
set_option linter.unusedSimpArgs false
namespace Go.Proofs.YtlgkfnecahgedaaGreatDoor.tok
open Go.RowKit
open lin (BA Turns)

theorem char_ok {w W : World} {rb tb : Nat} {ao : Option Addr} {n cap : Nat} {f : Nat → Int} {a k : Nat} {c p : Int} {t : Tk} {r : Int} {a' : Nat} (S : RT W rb tb ao n cap f a k c p t) (T : T2 rb tb w W) (hl : a < n) (hp : point f n a = .ok r a') :
    Calls Tryz.prog 29 #[.pointer (some ⟨rb, 0, none⟩)] W fun e w' => e = .returned (.tuple #[.int .i64 r, .bool true]) ∧ RT w' rb tb ao n cap f a' k c p t ∧ T2 rb tb w w' := by
  refine (char_t S T hl).mono ?_
  rintro e w' (⟨r1, a1, h1, h2, h3, h4⟩ | ⟨c1, p1, a1, h1, h2, h3, h4⟩)
  · rw [hp] at h1; injection h1 with h5 h6; subst h5; subst h6; exact ⟨h2, h3, h4⟩
  · rw [hp] at h1; cases h1
theorem char_no {w W : World} {rb tb : Nat} {ao : Option Addr} {n cap : Nat} {f : Nat → Int} {a k : Nat} {c p : Int} {t : Tk} {c' : Int} {p' : Nat} (S : RT W rb tb ao n cap f a k c p t) (T : T2 rb tb w W) (hl : a < n) (hp : point f n a = .no c' p') :
    Calls Tryz.prog 29 #[.pointer (some ⟨rb, 0, none⟩)] W fun e w' => e = .returned (.tuple #[.int .i64 0, .bool false]) ∧ (∃ a', RT w' rb tb ao n cap f a' k c' p' t) ∧ T2 rb tb w w' := by
  refine (char_t S T hl).mono ?_
  rintro e w' (⟨r1, a1, h1, h2, h3, h4⟩ | ⟨c1, p1, a1, h1, h2, h3, h4⟩)
  · rw [hp] at h1; cases h1
  · rw [hp] at h1; injection h1 with h5 h6; subst h5; subst h6; exact ⟨h2, ⟨_, h3⟩, h4⟩
/-- A byte in a new block, as a string. -/
theorem conv_one (w : World) (g : Nat) (hg : w.heap.size = g) (x : UInt8) : (convert 22 9 (.slice (some ⟨g, 0, none⟩) 1 1)).run Tryz.prog (w.alloc (.cells #[.int .u8 x.toNat] 5)) = .ok (.string (BA [x])) (w.alloc (.cells #[.int .u8 x.toNat] 5)) := by
  subst hg
  have := run_convert_bytes_arg (P := Tryz.prog) (w.alloc (.cells #[.int .u8 x.toNat] 5)) 22 5 Tryz.underlying22 Tryz.underlying5 w.heap.size 0 1 1 [(x.toNat : Int)] rfl (fun i hi => by
    obtain rfl : i = 0 := by omega
    rw [World.cell?_alloc_mark]; rfl) 9 Tryz.underlying9
  have e : strOfNums [(x.toNat : Int)] = BA [x] := by simp [strOfNums, BA]
  rw [e] at this
  exact this
set_option maxHeartbeats 4000000 in
set_option maxRecDepth 100000 in
theorem resc_end (rb tb : Nat) (ao : Option Addr) (n cap : Nat) (f : Nat → Int) (a k : Nat) (c p : Int) (st : Nat) (w : World) (h : RT w rb tb ao n cap f a k c p ⟨0, 0, 0, 0, [], false, st, 0⟩) (hl : a + 1 = n) :
    Calls Tryz.prog 28 #[.pointer (some ⟨rb, 0, none⟩), .pointer (some ⟨tb, 0, none⟩)] w (REt w rb tb ao n cap f k c p st (.no 130 n)) := by
  have hz2 : n - (a + 1) = 0 := by omega
  have hz3 : ((n - (a + 1) : Nat) : Int) = 0 := by omega
  have hz4 : (((n - (a + 1) : Nat) : Int) == 0) = true := by simp; omega
  have hne : ¬ tb = rb := h.ne
  have hne' : ¬ rb = tb := fun e => h.ne e.symm
  have hn := h.rs.nn
  have ha := h.rs.aa
  have hcc := h.rs.cc
  have hcm := h.rs.cm
  have S0 := h
  have U0 : T2 rb tb w w := lin.Turns.refl _ w
  clear h
  obtain ⟨⟨c0, c1, c2, z1, z2⟩, ⟨k0, k1, k2, k3, k4, k5, k6, k7⟩, ⟨f0, f1, f2, f3, f4, f5, f6, f7⟩⟩ := S0.cells
  go_enter Tryz.func28, Tryz.ntmps28
  have S1 := S0.put1 (x := ((a : Nat) : Int) + 1) (a' := a + 1) (by omega) (by omega)
  have U1 := T2.at U0 1 (.int .i64 (((a : Nat) : Int) + 1))
  clear S0 U0
  have C := rest_t S1 U1
  go_wp2_with fail
  refine C.mono ?_
  rintro e w2 ⟨rfl, S2, U2⟩
  clear C S1 U1
  clear c0 c1 c2 z1 z2 k0 k1 k2 k3 k4 k5 k6 k7 f0 f1 f2 f3 f4 f5 f6 f7
  obtain ⟨⟨c0, c1, c2, z1, z2⟩, ⟨k0, k1, k2, k3, k4, k5, k6, k7⟩, ⟨f0, f1, f2, f3, f4, f5, f6, f7⟩⟩ := S2.cells
  have C := fail_t S2 U2 130 n
  go_wp2_with fail
  refine C.mono ?_
  rintro e w9 ⟨rfl, S9, U9⟩
  clear C
  go_wp2
  go_ret
  exact ⟨rfl, ⟨_, _, S9⟩, U9⟩
set_option maxHeartbeats 4000000 in
set_option maxRecDepth 100000 in
theorem resc_mal (rb tb : Nat) (ao : Option Addr) (n cap : Nat) (f : Nat → Int) (a k : Nat) (c p : Int) (st : Nat) (w : World) (h : RT w rb tb ao n cap f a k c p ⟨0, 0, 0, 0, [], false, st, 0⟩) (hl : a + 1 < n) (cc1 : Int) (pp1 : Nat) (hp : point f n (a + 1) = .no cc1 pp1) :
    Calls Tryz.prog 28 #[.pointer (some ⟨rb, 0, none⟩), .pointer (some ⟨tb, 0, none⟩)] w (REt w rb tb ao n cap f k c p st (.no cc1 pp1)) := by
  have HP : Hid (point f n (a + 1) = .no cc1 pp1) := hp
  clear hp
  have hz2 : 0 < n - (a + 1) := by omega
  have hz3 : ¬ n - (a + 1) = 0 := by omega
  have hz4 : (((n - (a + 1) : Nat) : Int) == 0) = false := by simp; omega
  have hne : ¬ tb = rb := h.ne
  have hne' : ¬ rb = tb := fun e => h.ne e.symm
  have hn := h.rs.nn
  have ha := h.rs.aa
  have hcc := h.rs.cc
  have hcm := h.rs.cm
  have S0 := h
  have U0 : T2 rb tb w w := lin.Turns.refl _ w
  clear h
  obtain ⟨⟨c0, c1, c2, z1, z2⟩, ⟨k0, k1, k2, k3, k4, k5, k6, k7⟩, ⟨f0, f1, f2, f3, f4, f5, f6, f7⟩⟩ := S0.cells
  go_enter Tryz.func28, Tryz.ntmps28
  have S1 := S0.put1 (x := ((a : Nat) : Int) + 1) (a' := a + 1) (by omega) (by omega)
  have U1 := T2.at U0 1 (.int .i64 (((a : Nat) : Int) + 1))
  clear S0 U0
  have C := rest_t S1 U1
  go_wp2_with fail
  refine C.mono ?_
  rintro e w2 ⟨rfl, S2, U2⟩
  clear C S1 U1
  clear c0 c1 c2 z1 z2 k0 k1 k2 k3 k4 k5 k6 k7 f0 f1 f2 f3 f4 f5 f6 f7
  obtain ⟨⟨c0, c1, c2, z1, z2⟩, ⟨k0, k1, k2, k3, k4, k5, k6, k7⟩, ⟨f0, f1, f2, f3, f4, f5, f6, f7⟩⟩ := S2.cells
  have C := char_no S2 U2 hl HP.out
  go_wp2_with fail
  refine C.mono ?_
  rintro e w9 ⟨rfl, ⟨a9, S9⟩, U9⟩
  clear C
  go_wp2
  go_ret
  exact ⟨rfl, ⟨_, _, S9⟩, U9⟩
end Go.Proofs.YtlgkfnecahgedaaGreatDoor.tok
end

section
/- The document's escapes: properties of one letter. -/
set_option linter.unusedVariables false
set_option linter.unusedSimpArgs false
namespace Go.Proofs.YtlgkfnecahgedaaGreatDoor.tok
open Go.RowKit
open lin (BA Turns)

set_option maxHeartbeats 4000000 in
set_option maxRecDepth 100000 in
theorem resc_100 (rb tb : Nat) (ao : Option Addr) (n cap : Nat) (f : Nat → Int) (a k : Nat) (c p : Int) (st : Nat) (w : World) (h : RT w rb tb ao n cap f a k c p ⟨0, 0, 0, 0, [], false, st, 0⟩) (hl : a + 1 < n) (a2 : Nat) (hp : point f n (a + 1) = .ok 100 a2) (ha2 : a2 ≤ n) :
    Calls Tryz.prog 28 #[.pointer (some ⟨rb, 0, none⟩), .pointer (some ⟨tb, 0, none⟩)] w (REt w rb tb ao n cap f k c p st (.ok (prop [100] false) a2)) := by
  have HP : Hid (point f n (a + 1) = .ok 100 a2) := hp
  clear hp
  have hz2 : 0 < n - (a + 1) := by omega
  have hz3 : ¬ n - (a + 1) = 0 := by omega
  have hz4 : (((n - (a + 1) : Nat) : Int) == 0) = false := by simp; omega
  have hne : ¬ tb = rb := h.ne
  have hne' : ¬ rb = tb := fun e => h.ne e.symm
  have hn := h.rs.nn
  have ha := h.rs.aa
  have hcc := h.rs.cc
  have hcm := h.rs.cm
  have S0 := h
  have U0 : T2 rb tb w w := lin.Turns.refl _ w
  clear h
  obtain ⟨⟨c0, c1, c2, z1, z2⟩, ⟨k0, k1, k2, k3, k4, k5, k6, k7⟩, ⟨f0, f1, f2, f3, f4, f5, f6, f7⟩⟩ := S0.cells
  go_enter Tryz.func28, Tryz.ntmps28
  have S1 := S0.put1 (x := ((a : Nat) : Int) + 1) (a' := a + 1) (by omega) (by omega)
  have U1 := T2.at U0 1 (.int .i64 (((a : Nat) : Int) + 1))
  clear S0 U0
  have C := rest_t S1 U1
  go_wp2_with fail
  refine C.mono ?_
  rintro e w2 ⟨rfl, S2, U2⟩
  clear C S1 U1
  clear c0 c1 c2 z1 z2 k0 k1 k2 k3 k4 k5 k6 k7 f0 f1 f2 f3 f4 f5 f6 f7
  obtain ⟨⟨c0, c1, c2, z1, z2⟩, ⟨k0, k1, k2, k3, k4, k5, k6, k7⟩, ⟨f0, f1, f2, f3, f4, f5, f6, f7⟩⟩ := S2.cells
  have C := char_ok S2 U2 hl HP.out
  go_wp2_with fail
  refine C.mono ?_
  rintro e w3 ⟨rfl, S3, U3⟩
  clear C S2 U2
  clear c0 c1 c2 z1 z2 k0 k1 k2 k3 k4 k5 k6 k7 f0 f1 f2 f3 f4 f5 f6 f7
  obtain ⟨⟨c0, c1, c2, z1, z2⟩, ⟨k0, k1, k2, k3, k4, k5, k6, k7⟩, ⟨f0, f1, f2, f3, f4, f5, f6, f7⟩⟩ := S3.cells
  have o1 : bits .or .u8 100 32 = 100 := by decide
  have hq1 : ¬ tb = w3.heap.size := by have := (Array.getElem?_eq_some_iff.1 S3.tk).1; omega
  have hq2 : tb < w3.heap.size := (Array.getElem?_eq_some_iff.1 S3.tk).1
  have CV := conv_one w3 w3.heap.size rfl 100
  rw [show ((100 : UInt8).toNat : Int) = 100 from rfl] at CV
  have S4 := S3.t0 8
  have U4 := T2.put U3 0 (.int .i64 8)
  clear S3 U3
  have S5 := S4.t4 [100]
  have U5 := T2.put U4 4 (.string (BA [100]))
  clear S4 U4
  have S6 := S5.t5 false
  have U6 := T2.put U5 5 (.bool false)
  clear S5 U5
  have S7 := S6.below ((Below.refl _ _).alloc (Nat.le_refl _) (.cells #[.int .u8 100] 5))
  have U7 := lin.Turns.alloc U6 (.cells #[.int .u8 100] 5)
  clear S6 U6
  go_wp2
  go_ret
  exact ⟨rfl, S7, U7⟩
set_option maxHeartbeats 4000000 in
set_option maxRecDepth 100000 in
theorem resc_119 (rb tb : Nat) (ao : Option Addr) (n cap : Nat) (f : Nat → Int) (a k : Nat) (c p : Int) (st : Nat) (w : World) (h : RT w rb tb ao n cap f a k c p ⟨0, 0, 0, 0, [], false, st, 0⟩) (hl : a + 1 < n) (a2 : Nat) (hp : point f n (a + 1) = .ok 119 a2) (ha2 : a2 ≤ n) :
    Calls Tryz.prog 28 #[.pointer (some ⟨rb, 0, none⟩), .pointer (some ⟨tb, 0, none⟩)] w (REt w rb tb ao n cap f k c p st (.ok (prop [119] false) a2)) := by
  have HP : Hid (point f n (a + 1) = .ok 119 a2) := hp
  clear hp
  have hz2 : 0 < n - (a + 1) := by omega
  have hz3 : ¬ n - (a + 1) = 0 := by omega
  have hz4 : (((n - (a + 1) : Nat) : Int) == 0) = false := by simp; omega
  have hne : ¬ tb = rb := h.ne
  have hne' : ¬ rb = tb := fun e => h.ne e.symm
  have hn := h.rs.nn
  have ha := h.rs.aa
  have hcc := h.rs.cc
  have hcm := h.rs.cm
  have S0 := h
  have U0 : T2 rb tb w w := lin.Turns.refl _ w
  clear h
  obtain ⟨⟨c0, c1, c2, z1, z2⟩, ⟨k0, k1, k2, k3, k4, k5, k6, k7⟩, ⟨f0, f1, f2, f3, f4, f5, f6, f7⟩⟩ := S0.cells
  go_enter Tryz.func28, Tryz.ntmps28
  have S1 := S0.put1 (x := ((a : Nat) : Int) + 1) (a' := a + 1) (by omega) (by omega)
  have U1 := T2.at U0 1 (.int .i64 (((a : Nat) : Int) + 1))
  clear S0 U0
  have C := rest_t S1 U1
  go_wp2_with fail
  refine C.mono ?_
  rintro e w2 ⟨rfl, S2, U2⟩
  clear C S1 U1
  clear c0 c1 c2 z1 z2 k0 k1 k2 k3 k4 k5 k6 k7 f0 f1 f2 f3 f4 f5 f6 f7
  obtain ⟨⟨c0, c1, c2, z1, z2⟩, ⟨k0, k1, k2, k3, k4, k5, k6, k7⟩, ⟨f0, f1, f2, f3, f4, f5, f6, f7⟩⟩ := S2.cells
  have C := char_ok S2 U2 hl HP.out
  go_wp2_with fail
  refine C.mono ?_
  rintro e w3 ⟨rfl, S3, U3⟩
  clear C S2 U2
  clear c0 c1 c2 z1 z2 k0 k1 k2 k3 k4 k5 k6 k7 f0 f1 f2 f3 f4 f5 f6 f7
  obtain ⟨⟨c0, c1, c2, z1, z2⟩, ⟨k0, k1, k2, k3, k4, k5, k6, k7⟩, ⟨f0, f1, f2, f3, f4, f5, f6, f7⟩⟩ := S3.cells
  have o1 : bits .or .u8 119 32 = 119 := by decide
  have hq1 : ¬ tb = w3.heap.size := by have := (Array.getElem?_eq_some_iff.1 S3.tk).1; omega
  have hq2 : tb < w3.heap.size := (Array.getElem?_eq_some_iff.1 S3.tk).1
  have CV := conv_one w3 w3.heap.size rfl 119
  rw [show ((119 : UInt8).toNat : Int) = 119 from rfl] at CV
  have S4 := S3.t0 8
  have U4 := T2.put U3 0 (.int .i64 8)
  clear S3 U3
  have S5 := S4.t4 [119]
  have U5 := T2.put U4 4 (.string (BA [119]))
  clear S4 U4
  have S6 := S5.t5 false
  have U6 := T2.put U5 5 (.bool false)
  clear S5 U5
  have S7 := S6.below ((Below.refl _ _).alloc (Nat.le_refl _) (.cells #[.int .u8 119] 5))
  have U7 := lin.Turns.alloc U6 (.cells #[.int .u8 119] 5)
  clear S6 U6
  go_wp2
  go_ret
  exact ⟨rfl, S7, U7⟩
set_option maxHeartbeats 4000000 in
set_option maxRecDepth 100000 in
theorem resc_115 (rb tb : Nat) (ao : Option Addr) (n cap : Nat) (f : Nat → Int) (a k : Nat) (c p : Int) (st : Nat) (w : World) (h : RT w rb tb ao n cap f a k c p ⟨0, 0, 0, 0, [], false, st, 0⟩) (hl : a + 1 < n) (a2 : Nat) (hp : point f n (a + 1) = .ok 115 a2) (ha2 : a2 ≤ n) :
    Calls Tryz.prog 28 #[.pointer (some ⟨rb, 0, none⟩), .pointer (some ⟨tb, 0, none⟩)] w (REt w rb tb ao n cap f k c p st (.ok (prop [115] false) a2)) := by
  have HP : Hid (point f n (a + 1) = .ok 115 a2) := hp
  clear hp
  have hz2 : 0 < n - (a + 1) := by omega
  have hz3 : ¬ n - (a + 1) = 0 := by omega
  have hz4 : (((n - (a + 1) : Nat) : Int) == 0) = false := by simp; omega
  have hne : ¬ tb = rb := h.ne
  have hne' : ¬ rb = tb := fun e => h.ne e.symm
  have hn := h.rs.nn
  have ha := h.rs.aa
  have hcc := h.rs.cc
  have hcm := h.rs.cm
  have S0 := h
  have U0 : T2 rb tb w w := lin.Turns.refl _ w
  clear h
  obtain ⟨⟨c0, c1, c2, z1, z2⟩, ⟨k0, k1, k2, k3, k4, k5, k6, k7⟩, ⟨f0, f1, f2, f3, f4, f5, f6, f7⟩⟩ := S0.cells
  go_enter Tryz.func28, Tryz.ntmps28
  have S1 := S0.put1 (x := ((a : Nat) : Int) + 1) (a' := a + 1) (by omega) (by omega)
  have U1 := T2.at U0 1 (.int .i64 (((a : Nat) : Int) + 1))
  clear S0 U0
  have C := rest_t S1 U1
  go_wp2_with fail
  refine C.mono ?_
  rintro e w2 ⟨rfl, S2, U2⟩
  clear C S1 U1
  clear c0 c1 c2 z1 z2 k0 k1 k2 k3 k4 k5 k6 k7 f0 f1 f2 f3 f4 f5 f6 f7
  obtain ⟨⟨c0, c1, c2, z1, z2⟩, ⟨k0, k1, k2, k3, k4, k5, k6, k7⟩, ⟨f0, f1, f2, f3, f4, f5, f6, f7⟩⟩ := S2.cells
  have C := char_ok S2 U2 hl HP.out
  go_wp2_with fail
  refine C.mono ?_
  rintro e w3 ⟨rfl, S3, U3⟩
  clear C S2 U2
  clear c0 c1 c2 z1 z2 k0 k1 k2 k3 k4 k5 k6 k7 f0 f1 f2 f3 f4 f5 f6 f7
  obtain ⟨⟨c0, c1, c2, z1, z2⟩, ⟨k0, k1, k2, k3, k4, k5, k6, k7⟩, ⟨f0, f1, f2, f3, f4, f5, f6, f7⟩⟩ := S3.cells
  have o1 : bits .or .u8 115 32 = 115 := by decide
  have hq1 : ¬ tb = w3.heap.size := by have := (Array.getElem?_eq_some_iff.1 S3.tk).1; omega
  have hq2 : tb < w3.heap.size := (Array.getElem?_eq_some_iff.1 S3.tk).1
  have CV := conv_one w3 w3.heap.size rfl 115
  rw [show ((115 : UInt8).toNat : Int) = 115 from rfl] at CV
  have S4 := S3.t0 8
  have U4 := T2.put U3 0 (.int .i64 8)
  clear S3 U3
  have S5 := S4.t4 [115]
  have U5 := T2.put U4 4 (.string (BA [115]))
  clear S4 U4
  have S6 := S5.t5 false
  have U6 := T2.put U5 5 (.bool false)
  clear S5 U5
  have S7 := S6.below ((Below.refl _ _).alloc (Nat.le_refl _) (.cells #[.int .u8 115] 5))
  have U7 := lin.Turns.alloc U6 (.cells #[.int .u8 115] 5)
  clear S6 U6
  go_wp2
  go_ret
  exact ⟨rfl, S7, U7⟩
set_option maxHeartbeats 4000000 in
set_option maxRecDepth 100000 in
theorem resc_68 (rb tb : Nat) (ao : Option Addr) (n cap : Nat) (f : Nat → Int) (a k : Nat) (c p : Int) (st : Nat) (w : World) (h : RT w rb tb ao n cap f a k c p ⟨0, 0, 0, 0, [], false, st, 0⟩) (hl : a + 1 < n) (a2 : Nat) (hp : point f n (a + 1) = .ok 68 a2) (ha2 : a2 ≤ n) :
    Calls Tryz.prog 28 #[.pointer (some ⟨rb, 0, none⟩), .pointer (some ⟨tb, 0, none⟩)] w (REt w rb tb ao n cap f k c p st (.ok (prop [100] true) a2)) := by
  have HP : Hid (point f n (a + 1) = .ok 68 a2) := hp
  clear hp
  have hz2 : 0 < n - (a + 1) := by omega
  have hz3 : ¬ n - (a + 1) = 0 := by omega
  have hz4 : (((n - (a + 1) : Nat) : Int) == 0) = false := by simp; omega
  have hne : ¬ tb = rb := h.ne
  have hne' : ¬ rb = tb := fun e => h.ne e.symm
  have hn := h.rs.nn
  have ha := h.rs.aa
  have hcc := h.rs.cc
  have hcm := h.rs.cm
  have S0 := h
  have U0 : T2 rb tb w w := lin.Turns.refl _ w
  clear h
  obtain ⟨⟨c0, c1, c2, z1, z2⟩, ⟨k0, k1, k2, k3, k4, k5, k6, k7⟩, ⟨f0, f1, f2, f3, f4, f5, f6, f7⟩⟩ := S0.cells
  go_enter Tryz.func28, Tryz.ntmps28
  have S1 := S0.put1 (x := ((a : Nat) : Int) + 1) (a' := a + 1) (by omega) (by omega)
  have U1 := T2.at U0 1 (.int .i64 (((a : Nat) : Int) + 1))
  clear S0 U0
  have C := rest_t S1 U1
  go_wp2_with fail
  refine C.mono ?_
  rintro e w2 ⟨rfl, S2, U2⟩
  clear C S1 U1
  clear c0 c1 c2 z1 z2 k0 k1 k2 k3 k4 k5 k6 k7 f0 f1 f2 f3 f4 f5 f6 f7
  obtain ⟨⟨c0, c1, c2, z1, z2⟩, ⟨k0, k1, k2, k3, k4, k5, k6, k7⟩, ⟨f0, f1, f2, f3, f4, f5, f6, f7⟩⟩ := S2.cells
  have C := char_ok S2 U2 hl HP.out
  go_wp2_with fail
  refine C.mono ?_
  rintro e w3 ⟨rfl, S3, U3⟩
  clear C S2 U2
  clear c0 c1 c2 z1 z2 k0 k1 k2 k3 k4 k5 k6 k7 f0 f1 f2 f3 f4 f5 f6 f7
  obtain ⟨⟨c0, c1, c2, z1, z2⟩, ⟨k0, k1, k2, k3, k4, k5, k6, k7⟩, ⟨f0, f1, f2, f3, f4, f5, f6, f7⟩⟩ := S3.cells
  have o1 : bits .or .u8 68 32 = 100 := by decide
  have hq1 : ¬ tb = w3.heap.size := by have := (Array.getElem?_eq_some_iff.1 S3.tk).1; omega
  have hq2 : tb < w3.heap.size := (Array.getElem?_eq_some_iff.1 S3.tk).1
  have CV := conv_one w3 w3.heap.size rfl 100
  rw [show ((100 : UInt8).toNat : Int) = 100 from rfl] at CV
  have S4 := S3.t0 8
  have U4 := T2.put U3 0 (.int .i64 8)
  clear S3 U3
  have S5 := S4.t4 [100]
  have U5 := T2.put U4 4 (.string (BA [100]))
  clear S4 U4
  have S6 := S5.t5 true
  have U6 := T2.put U5 5 (.bool true)
  clear S5 U5
  have S7 := S6.below ((Below.refl _ _).alloc (Nat.le_refl _) (.cells #[.int .u8 100] 5))
  have U7 := lin.Turns.alloc U6 (.cells #[.int .u8 100] 5)
  clear S6 U6
  go_wp2
  go_ret
  exact ⟨rfl, S7, U7⟩
set_option maxHeartbeats 4000000 in
set_option maxRecDepth 100000 in
theorem resc_87 (rb tb : Nat) (ao : Option Addr) (n cap : Nat) (f : Nat → Int) (a k : Nat) (c p : Int) (st : Nat) (w : World) (h : RT w rb tb ao n cap f a k c p ⟨0, 0, 0, 0, [], false, st, 0⟩) (hl : a + 1 < n) (a2 : Nat) (hp : point f n (a + 1) = .ok 87 a2) (ha2 : a2 ≤ n) :
    Calls Tryz.prog 28 #[.pointer (some ⟨rb, 0, none⟩), .pointer (some ⟨tb, 0, none⟩)] w (REt w rb tb ao n cap f k c p st (.ok (prop [119] true) a2)) := by
  have HP : Hid (point f n (a + 1) = .ok 87 a2) := hp
  clear hp
  have hz2 : 0 < n - (a + 1) := by omega
  have hz3 : ¬ n - (a + 1) = 0 := by omega
  have hz4 : (((n - (a + 1) : Nat) : Int) == 0) = false := by simp; omega
  have hne : ¬ tb = rb := h.ne
  have hne' : ¬ rb = tb := fun e => h.ne e.symm
  have hn := h.rs.nn
  have ha := h.rs.aa
  have hcc := h.rs.cc
  have hcm := h.rs.cm
  have S0 := h
  have U0 : T2 rb tb w w := lin.Turns.refl _ w
  clear h
  obtain ⟨⟨c0, c1, c2, z1, z2⟩, ⟨k0, k1, k2, k3, k4, k5, k6, k7⟩, ⟨f0, f1, f2, f3, f4, f5, f6, f7⟩⟩ := S0.cells
  go_enter Tryz.func28, Tryz.ntmps28
  have S1 := S0.put1 (x := ((a : Nat) : Int) + 1) (a' := a + 1) (by omega) (by omega)
  have U1 := T2.at U0 1 (.int .i64 (((a : Nat) : Int) + 1))
  clear S0 U0
  have C := rest_t S1 U1
  go_wp2_with fail
  refine C.mono ?_
  rintro e w2 ⟨rfl, S2, U2⟩
  clear C S1 U1
  clear c0 c1 c2 z1 z2 k0 k1 k2 k3 k4 k5 k6 k7 f0 f1 f2 f3 f4 f5 f6 f7
  obtain ⟨⟨c0, c1, c2, z1, z2⟩, ⟨k0, k1, k2, k3, k4, k5, k6, k7⟩, ⟨f0, f1, f2, f3, f4, f5, f6, f7⟩⟩ := S2.cells
  have C := char_ok S2 U2 hl HP.out
  go_wp2_with fail
  refine C.mono ?_
  rintro e w3 ⟨rfl, S3, U3⟩
  clear C S2 U2
  clear c0 c1 c2 z1 z2 k0 k1 k2 k3 k4 k5 k6 k7 f0 f1 f2 f3 f4 f5 f6 f7
  obtain ⟨⟨c0, c1, c2, z1, z2⟩, ⟨k0, k1, k2, k3, k4, k5, k6, k7⟩, ⟨f0, f1, f2, f3, f4, f5, f6, f7⟩⟩ := S3.cells
  have o1 : bits .or .u8 87 32 = 119 := by decide
  have hq1 : ¬ tb = w3.heap.size := by have := (Array.getElem?_eq_some_iff.1 S3.tk).1; omega
  have hq2 : tb < w3.heap.size := (Array.getElem?_eq_some_iff.1 S3.tk).1
  have CV := conv_one w3 w3.heap.size rfl 119
  rw [show ((119 : UInt8).toNat : Int) = 119 from rfl] at CV
  have S4 := S3.t0 8
  have U4 := T2.put U3 0 (.int .i64 8)
  clear S3 U3
  have S5 := S4.t4 [119]
  have U5 := T2.put U4 4 (.string (BA [119]))
  clear S4 U4
  have S6 := S5.t5 true
  have U6 := T2.put U5 5 (.bool true)
  clear S5 U5
  have S7 := S6.below ((Below.refl _ _).alloc (Nat.le_refl _) (.cells #[.int .u8 119] 5))
  have U7 := lin.Turns.alloc U6 (.cells #[.int .u8 119] 5)
  clear S6 U6
  go_wp2
  go_ret
  exact ⟨rfl, S7, U7⟩
set_option maxHeartbeats 4000000 in
set_option maxRecDepth 100000 in
theorem resc_83 (rb tb : Nat) (ao : Option Addr) (n cap : Nat) (f : Nat → Int) (a k : Nat) (c p : Int) (st : Nat) (w : World) (h : RT w rb tb ao n cap f a k c p ⟨0, 0, 0, 0, [], false, st, 0⟩) (hl : a + 1 < n) (a2 : Nat) (hp : point f n (a + 1) = .ok 83 a2) (ha2 : a2 ≤ n) :
    Calls Tryz.prog 28 #[.pointer (some ⟨rb, 0, none⟩), .pointer (some ⟨tb, 0, none⟩)] w (REt w rb tb ao n cap f k c p st (.ok (prop [115] true) a2)) := by
  have HP : Hid (point f n (a + 1) = .ok 83 a2) := hp
  clear hp
  have hz2 : 0 < n - (a + 1) := by omega
  have hz3 : ¬ n - (a + 1) = 0 := by omega
  have hz4 : (((n - (a + 1) : Nat) : Int) == 0) = false := by simp; omega
  have hne : ¬ tb = rb := h.ne
  have hne' : ¬ rb = tb := fun e => h.ne e.symm
  have hn := h.rs.nn
  have ha := h.rs.aa
  have hcc := h.rs.cc
  have hcm := h.rs.cm
  have S0 := h
  have U0 : T2 rb tb w w := lin.Turns.refl _ w
  clear h
  obtain ⟨⟨c0, c1, c2, z1, z2⟩, ⟨k0, k1, k2, k3, k4, k5, k6, k7⟩, ⟨f0, f1, f2, f3, f4, f5, f6, f7⟩⟩ := S0.cells
  go_enter Tryz.func28, Tryz.ntmps28
  have S1 := S0.put1 (x := ((a : Nat) : Int) + 1) (a' := a + 1) (by omega) (by omega)
  have U1 := T2.at U0 1 (.int .i64 (((a : Nat) : Int) + 1))
  clear S0 U0
  have C := rest_t S1 U1
  go_wp2_with fail
  refine C.mono ?_
  rintro e w2 ⟨rfl, S2, U2⟩
  clear C S1 U1
  clear c0 c1 c2 z1 z2 k0 k1 k2 k3 k4 k5 k6 k7 f0 f1 f2 f3 f4 f5 f6 f7
  obtain ⟨⟨c0, c1, c2, z1, z2⟩, ⟨k0, k1, k2, k3, k4, k5, k6, k7⟩, ⟨f0, f1, f2, f3, f4, f5, f6, f7⟩⟩ := S2.cells
  have C := char_ok S2 U2 hl HP.out
  go_wp2_with fail
  refine C.mono ?_
  rintro e w3 ⟨rfl, S3, U3⟩
  clear C S2 U2
  clear c0 c1 c2 z1 z2 k0 k1 k2 k3 k4 k5 k6 k7 f0 f1 f2 f3 f4 f5 f6 f7
  obtain ⟨⟨c0, c1, c2, z1, z2⟩, ⟨k0, k1, k2, k3, k4, k5, k6, k7⟩, ⟨f0, f1, f2, f3, f4, f5, f6, f7⟩⟩ := S3.cells
  have o1 : bits .or .u8 83 32 = 115 := by decide
  have hq1 : ¬ tb = w3.heap.size := by have := (Array.getElem?_eq_some_iff.1 S3.tk).1; omega
  have hq2 : tb < w3.heap.size := (Array.getElem?_eq_some_iff.1 S3.tk).1
  have CV := conv_one w3 w3.heap.size rfl 115
  rw [show ((115 : UInt8).toNat : Int) = 115 from rfl] at CV
  have S4 := S3.t0 8
  have U4 := T2.put U3 0 (.int .i64 8)
  clear S3 U3
  have S5 := S4.t4 [115]
  have U5 := T2.put U4 4 (.string (BA [115]))
  clear S4 U4
  have S6 := S5.t5 true
  have U6 := T2.put U5 5 (.bool true)
  clear S5 U5
  have S7 := S6.below ((Below.refl _ _).alloc (Nat.le_refl _) (.cells #[.int .u8 115] 5))
  have U7 := lin.Turns.alloc U6 (.cells #[.int .u8 115] 5)
  clear S6 U6
  go_wp2
  go_ret
  exact ⟨rfl, S7, U7⟩
end Go.Proofs.YtlgkfnecahgedaaGreatDoor.tok
end
