/- Texts that the proof leans on, one behind the other. -/
import Derived.Test.YtlgkfnecahgedaaGreatDoorBdTok20

section
/- The document's escapes: properties, digits, controls. -/
set_option linter.unusedVariables false
set_option linter.unusedSimpArgs false
namespace Go.Proofs.YtlgkfnecahgedaaGreatDoor.tok
open Go.RowKit
open lin (BA Turns)

set_option maxHeartbeats 4000000 in
set_option maxRecDepth 100000 in
theorem resc_112 (rb tb : Nat) (ao : Option Addr) (n cap : Nat) (f : Nat → Int) (a k : Nat) (c p : Int) (st : Nat) (w : World) (h : RT w rb tb ao n cap f a k c p ⟨0, 0, 0, 0, [], false, st, 0⟩) (hst : noneC f st = 132) (hl : a + 1 < n) (a2 : Nat) (hp : point f n (a + 1) = .ok 112 a2) (ha2 : a2 ≤ n) :
    Calls Tryz.prog 28 #[.pointer (some ⟨rb, 0, none⟩), .pointer (some ⟨tb, 0, none⟩)] w (REt w rb tb ao n cap f k c p st ((expr f n st a2).bind fun s a => .ok (prop s false) a)) := by
  obtain ⟨o, ho⟩ : ∃ o, ((expr f n st a2).bind fun s a => .ok (prop s false) a) = o := ⟨_, rfl⟩
  rw [ho]
  have KO : Hid (((expr f n st a2).bind fun s a => .ok (prop s false) a) = o) := ho
  clear ho
  have HP : Hid (point f n (a + 1) = .ok 112 a2) := hp
  clear hp
  have hz2 : 0 < n - (a + 1) := by omega
  have hz3 : ¬ n - (a + 1) = 0 := by omega
  have hz4 : (((n - (a + 1) : Nat) : Int) == 0) = false := by simp; omega
  have hne : ¬ tb = rb := h.ne
  have hne' : ¬ rb = tb := fun e => h.ne e.symm
  have hn := h.rs.nn
  have ha := h.rs.aa
  have hcc := h.rs.cc
  have hcm := h.rs.cm
  have S0 := h
  have U0 : T2 rb tb w w := lin.Turns.refl _ w
  clear h
  obtain ⟨⟨c0, c1, c2, z1, z2⟩, ⟨k0, k1, k2, k3, k4, k5, k6, k7⟩, ⟨f0, f1, f2, f3, f4, f5, f6, f7⟩⟩ := S0.cells
  go_enter Tryz.func28, Tryz.ntmps28
  have S1 := S0.put1 (x := ((a : Nat) : Int) + 1) (a' := a + 1) (by omega) (by omega)
  have U1 := T2.at U0 1 (.int .i64 (((a : Nat) : Int) + 1))
  clear S0 U0
  have C := rest_t S1 U1
  go_wp2_with fail
  refine C.mono ?_
  rintro e w2 ⟨rfl, S2, U2⟩
  clear C S1 U1
  clear c0 c1 c2 z1 z2 k0 k1 k2 k3 k4 k5 k6 k7 f0 f1 f2 f3 f4 f5 f6 f7
  obtain ⟨⟨c0, c1, c2, z1, z2⟩, ⟨k0, k1, k2, k3, k4, k5, k6, k7⟩, ⟨f0, f1, f2, f3, f4, f5, f6, f7⟩⟩ := S2.cells
  have C := char_ok S2 U2 hl HP.out
  go_wp2_with fail
  refine C.mono ?_
  rintro e w3 ⟨rfl, S3, U3⟩
  clear C S2 U2
  clear c0 c1 c2 z1 z2 k0 k1 k2 k3 k4 k5 k6 k7 f0 f1 f2 f3 f4 f5 f6 f7
  obtain ⟨⟨c0, c1, c2, z1, z2⟩, ⟨k0, k1, k2, k3, k4, k5, k6, k7⟩, ⟨f0, f1, f2, f3, f4, f5, f6, f7⟩⟩ := S3.cells
  have S4 := S3.t5 false
  have U4 := T2.put U3 5 (.bool false)
  clear S3 U3
  have C := rprop rb tb false ao n cap f a2 k c p st _ S4 hst
  rw [KO.out] at C
  clear KO
  go_wp2_with fail
  refine C.mono ?_
  clear C
  cases o with
  | ok t1 a1 =>
    rintro e w9 ⟨rfl, S9, U9⟩
    go_wp2
    go_ret
    exact ⟨rfl, S9, lin.Turns.trans U4 U9⟩
  | no cc1 pp1 =>
    rintro e w9 ⟨rfl, S9, U9⟩
    go_wp2
    go_ret
    exact ⟨rfl, S9, lin.Turns.trans U4 U9⟩
set_option maxHeartbeats 4000000 in
set_option maxRecDepth 100000 in
theorem resc_80 (rb tb : Nat) (ao : Option Addr) (n cap : Nat) (f : Nat → Int) (a k : Nat) (c p : Int) (st : Nat) (w : World) (h : RT w rb tb ao n cap f a k c p ⟨0, 0, 0, 0, [], false, st, 0⟩) (hst : noneC f st = 132) (hl : a + 1 < n) (a2 : Nat) (hp : point f n (a + 1) = .ok 80 a2) (ha2 : a2 ≤ n) :
    Calls Tryz.prog 28 #[.pointer (some ⟨rb, 0, none⟩), .pointer (some ⟨tb, 0, none⟩)] w (REt w rb tb ao n cap f k c p st ((expr f n st a2).bind fun s a => .ok (prop s true) a)) := by
  obtain ⟨o, ho⟩ : ∃ o, ((expr f n st a2).bind fun s a => .ok (prop s true) a) = o := ⟨_, rfl⟩
  rw [ho]
  have KO : Hid (((expr f n st a2).bind fun s a => .ok (prop s true) a) = o) := ho
  clear ho
  have HP : Hid (point f n (a + 1) = .ok 80 a2) := hp
  clear hp
  have hz2 : 0 < n - (a + 1) := by omega
  have hz3 : ¬ n - (a + 1) = 0 := by omega
  have hz4 : (((n - (a + 1) : Nat) : Int) == 0) = false := by simp; omega
  have hne : ¬ tb = rb := h.ne
  have hne' : ¬ rb = tb := fun e => h.ne e.symm
  have hn := h.rs.nn
  have ha := h.rs.aa
  have hcc := h.rs.cc
  have hcm := h.rs.cm
  have S0 := h
  have U0 : T2 rb tb w w := lin.Turns.refl _ w
  clear h
  obtain ⟨⟨c0, c1, c2, z1, z2⟩, ⟨k0, k1, k2, k3, k4, k5, k6, k7⟩, ⟨f0, f1, f2, f3, f4, f5, f6, f7⟩⟩ := S0.cells
  go_enter Tryz.func28, Tryz.ntmps28
  have S1 := S0.put1 (x := ((a : Nat) : Int) + 1) (a' := a + 1) (by omega) (by omega)
  have U1 := T2.at U0 1 (.int .i64 (((a : Nat) : Int) + 1))
  clear S0 U0
  have C := rest_t S1 U1
  go_wp2_with fail
  refine C.mono ?_
  rintro e w2 ⟨rfl, S2, U2⟩
  clear C S1 U1
  clear c0 c1 c2 z1 z2 k0 k1 k2 k3 k4 k5 k6 k7 f0 f1 f2 f3 f4 f5 f6 f7
  obtain ⟨⟨c0, c1, c2, z1, z2⟩, ⟨k0, k1, k2, k3, k4, k5, k6, k7⟩, ⟨f0, f1, f2, f3, f4, f5, f6, f7⟩⟩ := S2.cells
  have C := char_ok S2 U2 hl HP.out
  go_wp2_with fail
  refine C.mono ?_
  rintro e w3 ⟨rfl, S3, U3⟩
  clear C S2 U2
  clear c0 c1 c2 z1 z2 k0 k1 k2 k3 k4 k5 k6 k7 f0 f1 f2 f3 f4 f5 f6 f7
  obtain ⟨⟨c0, c1, c2, z1, z2⟩, ⟨k0, k1, k2, k3, k4, k5, k6, k7⟩, ⟨f0, f1, f2, f3, f4, f5, f6, f7⟩⟩ := S3.cells
  have S4 := S3.t5 true
  have U4 := T2.put U3 5 (.bool true)
  clear S3 U3
  have C := rprop rb tb true ao n cap f a2 k c p st _ S4 hst
  rw [KO.out] at C
  clear KO
  go_wp2_with fail
  refine C.mono ?_
  clear C
  cases o with
  | ok t1 a1 =>
    rintro e w9 ⟨rfl, S9, U9⟩
    go_wp2
    go_ret
    exact ⟨rfl, S9, lin.Turns.trans U4 U9⟩
  | no cc1 pp1 =>
    rintro e w9 ⟨rfl, S9, U9⟩
    go_wp2
    go_ret
    exact ⟨rfl, S9, lin.Turns.trans U4 U9⟩
set_option maxHeartbeats 4000000 in
set_option maxRecDepth 100000 in
theorem resc_120 (rb tb : Nat) (ao : Option Addr) (n cap : Nat) (f : Nat → Int) (a k : Nat) (c p : Int) (st : Nat) (w : World) (h : RT w rb tb ao n cap f a k c p ⟨0, 0, 0, 0, [], false, st, 0⟩) (hst : noneC f st = 132) (hl : a + 1 < n) (a2 : Nat) (hp : point f n (a + 1) = .ok 120 a2) (ha2 : a2 ≤ n) :
    Calls Tryz.prog 28 #[.pointer (some ⟨rb, 0, none⟩), .pointer (some ⟨tb, 0, none⟩)] w (REt w rb tb ao n cap f k c p st (hex f n st a2)) := by
  obtain ⟨o, ho⟩ : ∃ o, hex f n st a2 = o := ⟨_, rfl⟩
  rw [ho]
  have KO : Hid (hex f n st a2 = o) := ho
  clear ho
  have HP : Hid (point f n (a + 1) = .ok 120 a2) := hp
  clear hp
  have hz2 : 0 < n - (a + 1) := by omega
  have hz3 : ¬ n - (a + 1) = 0 := by omega
  have hz4 : (((n - (a + 1) : Nat) : Int) == 0) = false := by simp; omega
  have hne : ¬ tb = rb := h.ne
  have hne' : ¬ rb = tb := fun e => h.ne e.symm
  have hn := h.rs.nn
  have ha := h.rs.aa
  have hcc := h.rs.cc
  have hcm := h.rs.cm
  have S0 := h
  have U0 : T2 rb tb w w := lin.Turns.refl _ w
  clear h
  obtain ⟨⟨c0, c1, c2, z1, z2⟩, ⟨k0, k1, k2, k3, k4, k5, k6, k7⟩, ⟨f0, f1, f2, f3, f4, f5, f6, f7⟩⟩ := S0.cells
  go_enter Tryz.func28, Tryz.ntmps28
  have S1 := S0.put1 (x := ((a : Nat) : Int) + 1) (a' := a + 1) (by omega) (by omega)
  have U1 := T2.at U0 1 (.int .i64 (((a : Nat) : Int) + 1))
  clear S0 U0
  have C := rest_t S1 U1
  go_wp2_with fail
  refine C.mono ?_
  rintro e w2 ⟨rfl, S2, U2⟩
  clear C S1 U1
  clear c0 c1 c2 z1 z2 k0 k1 k2 k3 k4 k5 k6 k7 f0 f1 f2 f3 f4 f5 f6 f7
  obtain ⟨⟨c0, c1, c2, z1, z2⟩, ⟨k0, k1, k2, k3, k4, k5, k6, k7⟩, ⟨f0, f1, f2, f3, f4, f5, f6, f7⟩⟩ := S2.cells
  have C := char_ok S2 U2 hl HP.out
  go_wp2_with fail
  refine C.mono ?_
  rintro e w3 ⟨rfl, S3, U3⟩
  clear C S2 U2
  clear c0 c1 c2 z1 z2 k0 k1 k2 k3 k4 k5 k6 k7 f0 f1 f2 f3 f4 f5 f6 f7
  obtain ⟨⟨c0, c1, c2, z1, z2⟩, ⟨k0, k1, k2, k3, k4, k5, k6, k7⟩, ⟨f0, f1, f2, f3, f4, f5, f6, f7⟩⟩ := S3.cells
  have C := rhex rb tb ao n cap f a2 k c p st _ S3 hst
  rw [KO.out] at C
  clear KO
  go_wp2_with fail
  refine C.mono ?_
  clear C
  cases o with
  | ok t1 a1 =>
    rintro e w9 ⟨rfl, S9, U9⟩
    go_wp2
    go_ret
    exact ⟨rfl, S9, lin.Turns.trans U3 U9⟩
  | no cc1 pp1 =>
    rintro e w9 ⟨rfl, S9, U9⟩
    go_wp2
    go_ret
    exact ⟨rfl, S9, lin.Turns.trans U3 U9⟩
set_option maxHeartbeats 4000000 in
set_option maxRecDepth 100000 in
theorem resc_110 (rb tb : Nat) (ao : Option Addr) (n cap : Nat) (f : Nat → Int) (a k : Nat) (c p : Int) (st : Nat) (w : World) (h : RT w rb tb ao n cap f a k c p ⟨0, 0, 0, 0, [], false, st, 0⟩) (hl : a + 1 < n) (a2 : Nat) (hp : point f n (a + 1) = .ok 110 a2) (ha2 : a2 ≤ n) :
    Calls Tryz.prog 28 #[.pointer (some ⟨rb, 0, none⟩), .pointer (some ⟨tb, 0, none⟩)] w (REt w rb tb ao n cap f k c p st (.ok (char 10) a2)) := by
  have HP : Hid (point f n (a + 1) = .ok 110 a2) := hp
  clear hp
  have hz2 : 0 < n - (a + 1) := by omega
  have hz3 : ¬ n - (a + 1) = 0 := by omega
  have hz4 : (((n - (a + 1) : Nat) : Int) == 0) = false := by simp; omega
  have hne : ¬ tb = rb := h.ne
  have hne' : ¬ rb = tb := fun e => h.ne e.symm
  have hn := h.rs.nn
  have ha := h.rs.aa
  have hcc := h.rs.cc
  have hcm := h.rs.cm
  have S0 := h
  have U0 : T2 rb tb w w := lin.Turns.refl _ w
  clear h
  obtain ⟨⟨c0, c1, c2, z1, z2⟩, ⟨k0, k1, k2, k3, k4, k5, k6, k7⟩, ⟨f0, f1, f2, f3, f4, f5, f6, f7⟩⟩ := S0.cells
  go_enter Tryz.func28, Tryz.ntmps28
  have S1 := S0.put1 (x := ((a : Nat) : Int) + 1) (a' := a + 1) (by omega) (by omega)
  have U1 := T2.at U0 1 (.int .i64 (((a : Nat) : Int) + 1))
  clear S0 U0
  have C := rest_t S1 U1
  go_wp2_with fail
  refine C.mono ?_
  rintro e w2 ⟨rfl, S2, U2⟩
  clear C S1 U1
  clear c0 c1 c2 z1 z2 k0 k1 k2 k3 k4 k5 k6 k7 f0 f1 f2 f3 f4 f5 f6 f7
  obtain ⟨⟨c0, c1, c2, z1, z2⟩, ⟨k0, k1, k2, k3, k4, k5, k6, k7⟩, ⟨f0, f1, f2, f3, f4, f5, f6, f7⟩⟩ := S2.cells
  have C := char_ok S2 U2 hl HP.out
  go_wp2_with fail
  refine C.mono ?_
  rintro e w3 ⟨rfl, S3, U3⟩
  clear C S2 U2
  clear c0 c1 c2 z1 z2 k0 k1 k2 k3 k4 k5 k6 k7 f0 f1 f2 f3 f4 f5 f6 f7
  obtain ⟨⟨c0, c1, c2, z1, z2⟩, ⟨k0, k1, k2, k3, k4, k5, k6, k7⟩, ⟨f0, f1, f2, f3, f4, f5, f6, f7⟩⟩ := S3.cells
  have S4 := S3.t0 1
  have U4 := T2.put U3 0 (.int .i64 1)
  clear S3 U3
  have S5 := S4.t2 10
  have U5 := T2.put U4 2 (.int .i64 10)
  clear S4 U4
  go_wp2
  go_ret
  exact ⟨rfl, S5, U5⟩
set_option maxHeartbeats 4000000 in
set_option maxRecDepth 100000 in
theorem resc_116 (rb tb : Nat) (ao : Option Addr) (n cap : Nat) (f : Nat → Int) (a k : Nat) (c p : Int) (st : Nat) (w : World) (h : RT w rb tb ao n cap f a k c p ⟨0, 0, 0, 0, [], false, st, 0⟩) (hl : a + 1 < n) (a2 : Nat) (hp : point f n (a + 1) = .ok 116 a2) (ha2 : a2 ≤ n) :
    Calls Tryz.prog 28 #[.pointer (some ⟨rb, 0, none⟩), .pointer (some ⟨tb, 0, none⟩)] w (REt w rb tb ao n cap f k c p st (.ok (char 9) a2)) := by
  have HP : Hid (point f n (a + 1) = .ok 116 a2) := hp
  clear hp
  have hz2 : 0 < n - (a + 1) := by omega
  have hz3 : ¬ n - (a + 1) = 0 := by omega
  have hz4 : (((n - (a + 1) : Nat) : Int) == 0) = false := by simp; omega
  have hne : ¬ tb = rb := h.ne
  have hne' : ¬ rb = tb := fun e => h.ne e.symm
  have hn := h.rs.nn
  have ha := h.rs.aa
  have hcc := h.rs.cc
  have hcm := h.rs.cm
  have S0 := h
  have U0 : T2 rb tb w w := lin.Turns.refl _ w
  clear h
  obtain ⟨⟨c0, c1, c2, z1, z2⟩, ⟨k0, k1, k2, k3, k4, k5, k6, k7⟩, ⟨f0, f1, f2, f3, f4, f5, f6, f7⟩⟩ := S0.cells
  go_enter Tryz.func28, Tryz.ntmps28
  have S1 := S0.put1 (x := ((a : Nat) : Int) + 1) (a' := a + 1) (by omega) (by omega)
  have U1 := T2.at U0 1 (.int .i64 (((a : Nat) : Int) + 1))
  clear S0 U0
  have C := rest_t S1 U1
  go_wp2_with fail
  refine C.mono ?_
  rintro e w2 ⟨rfl, S2, U2⟩
  clear C S1 U1
  clear c0 c1 c2 z1 z2 k0 k1 k2 k3 k4 k5 k6 k7 f0 f1 f2 f3 f4 f5 f6 f7
  obtain ⟨⟨c0, c1, c2, z1, z2⟩, ⟨k0, k1, k2, k3, k4, k5, k6, k7⟩, ⟨f0, f1, f2, f3, f4, f5, f6, f7⟩⟩ := S2.cells
  have C := char_ok S2 U2 hl HP.out
  go_wp2_with fail
  refine C.mono ?_
  rintro e w3 ⟨rfl, S3, U3⟩
  clear C S2 U2
  clear c0 c1 c2 z1 z2 k0 k1 k2 k3 k4 k5 k6 k7 f0 f1 f2 f3 f4 f5 f6 f7
  obtain ⟨⟨c0, c1, c2, z1, z2⟩, ⟨k0, k1, k2, k3, k4, k5, k6, k7⟩, ⟨f0, f1, f2, f3, f4, f5, f6, f7⟩⟩ := S3.cells
  have S4 := S3.t0 1
  have U4 := T2.put U3 0 (.int .i64 1)
  clear S3 U3
  have S5 := S4.t2 10
  have U5 := T2.put U4 2 (.int .i64 10)
  clear S4 U4
  have S6 := S5.t2 9
  have U6 := T2.put U5 2 (.int .i64 9)
  clear S5 U5
  go_wp2
  go_ret
  exact ⟨rfl, S6, U6⟩
set_option maxHeartbeats 4000000 in
set_option maxRecDepth 100000 in
theorem resc_114 (rb tb : Nat) (ao : Option Addr) (n cap : Nat) (f : Nat → Int) (a k : Nat) (c p : Int) (st : Nat) (w : World) (h : RT w rb tb ao n cap f a k c p ⟨0, 0, 0, 0, [], false, st, 0⟩) (hl : a + 1 < n) (a2 : Nat) (hp : point f n (a + 1) = .ok 114 a2) (ha2 : a2 ≤ n) :
    Calls Tryz.prog 28 #[.pointer (some ⟨rb, 0, none⟩), .pointer (some ⟨tb, 0, none⟩)] w (REt w rb tb ao n cap f k c p st (.ok (char 13) a2)) := by
  have HP : Hid (point f n (a + 1) = .ok 114 a2) := hp
  clear hp
  have hz2 : 0 < n - (a + 1) := by omega
  have hz3 : ¬ n - (a + 1) = 0 := by omega
  have hz4 : (((n - (a + 1) : Nat) : Int) == 0) = false := by simp; omega
  have hne : ¬ tb = rb := h.ne
  have hne' : ¬ rb = tb := fun e => h.ne e.symm
  have hn := h.rs.nn
  have ha := h.rs.aa
  have hcc := h.rs.cc
  have hcm := h.rs.cm
  have S0 := h
  have U0 : T2 rb tb w w := lin.Turns.refl _ w
  clear h
  obtain ⟨⟨c0, c1, c2, z1, z2⟩, ⟨k0, k1, k2, k3, k4, k5, k6, k7⟩, ⟨f0, f1, f2, f3, f4, f5, f6, f7⟩⟩ := S0.cells
  go_enter Tryz.func28, Tryz.ntmps28
  have S1 := S0.put1 (x := ((a : Nat) : Int) + 1) (a' := a + 1) (by omega) (by omega)
  have U1 := T2.at U0 1 (.int .i64 (((a : Nat) : Int) + 1))
  clear S0 U0
  have C := rest_t S1 U1
  go_wp2_with fail
  refine C.mono ?_
  rintro e w2 ⟨rfl, S2, U2⟩
  clear C S1 U1
  clear c0 c1 c2 z1 z2 k0 k1 k2 k3 k4 k5 k6 k7 f0 f1 f2 f3 f4 f5 f6 f7
  obtain ⟨⟨c0, c1, c2, z1, z2⟩, ⟨k0, k1, k2, k3, k4, k5, k6, k7⟩, ⟨f0, f1, f2, f3, f4, f5, f6, f7⟩⟩ := S2.cells
  have C := char_ok S2 U2 hl HP.out
  go_wp2_with fail
  refine C.mono ?_
  rintro e w3 ⟨rfl, S3, U3⟩
  clear C S2 U2
  clear c0 c1 c2 z1 z2 k0 k1 k2 k3 k4 k5 k6 k7 f0 f1 f2 f3 f4 f5 f6 f7
  obtain ⟨⟨c0, c1, c2, z1, z2⟩, ⟨k0, k1, k2, k3, k4, k5, k6, k7⟩, ⟨f0, f1, f2, f3, f4, f5, f6, f7⟩⟩ := S3.cells
  have S4 := S3.t0 1
  have U4 := T2.put U3 0 (.int .i64 1)
  clear S3 U3
  have S5 := S4.t2 10
  have U5 := T2.put U4 2 (.int .i64 10)
  clear S4 U4
  have S6 := S5.t2 13
  have U6 := T2.put U5 2 (.int .i64 13)
  clear S5 U5
  go_wp2
  go_ret
  exact ⟨rfl, S6, U6⟩
end Go.Proofs.YtlgkfnecahgedaaGreatDoor.tok
end

section
/- The document's escapes outside of classes. -/
set_option linter.unusedVariables false
set_option linter.unusedSimpArgs false
namespace Go.Proofs.YtlgkfnecahgedaaGreatDoor.tok
open Go.RowKit
open lin (BA Turns)

set_option maxHeartbeats 4000000 in
set_option maxRecDepth 100000 in
theorem resc_outer (rb tb : Nat) (ao : Option Addr) (n cap : Nat) (f : Nat → Int) (a k : Nat) (c p : Int) (st : Nat) (w : World) (h : RT w rb tb ao n cap f a k c p ⟨0, 0, 0, 0, [], false, st, 0⟩) (r : Int) (o : Out Tk) (hl : a + 1 < n) (a2 : Nat) (hp : point f n (a + 1) = .ok r a2) (ha2 : a2 ≤ n) (n100 : ¬ r = 100) (n119 : ¬ r = 119) (n115 : ¬ r = 115) (n68 : ¬ r = 68) (n87 : ¬ r = 87) (n83 : ¬ r = 83) (n112 : ¬ r = 112) (n80 : ¬ r = 80) (n120 : ¬ r = 120) (n110 : ¬ r = 110) (n116 : ¬ r = 116) (n114 : ¬ r = 114) (hk : k = 0) (ho : ∀ W, RT W rb tb ao n cap f a2 k c p ⟨0, 0, 0, 0, [], false, st, 0⟩ → Calls Tryz.prog 50 #[.pointer (some ⟨rb, 0, none⟩), .pointer (some ⟨tb, 0, none⟩), .int .i64 r] W (ROt W rb tb ao n cap f k c p st o)) :
    Calls Tryz.prog 28 #[.pointer (some ⟨rb, 0, none⟩), .pointer (some ⟨tb, 0, none⟩)] w (REt w rb tb ao n cap f k c p st (o)) := by
  have q100 : (r == 100) = false := by simp [n100]
  have q119 : (r == 119) = false := by simp [n119]
  have q115 : (r == 115) = false := by simp [n115]
  have q68 : (r == 68) = false := by simp [n68]
  have q87 : (r == 87) = false := by simp [n87]
  have q83 : (r == 83) = false := by simp [n83]
  have q112 : (r == 112) = false := by simp [n112]
  have q80 : (r == 80) = false := by simp [n80]
  have q120 : (r == 120) = false := by simp [n120]
  have q110 : (r == 110) = false := by simp [n110]
  have q116 : (r == 116) = false := by simp [n116]
  have q114 : (r == 114) = false := by simp [n114]
  clear n100 n119 n115 n68 n87 n83 n112 n80 n120 n110 n116 n114
  have hk2 : (k : Int) = 0 := by omega
  have hk3 : ((k : Int) == 0) = true := by simp; omega
  have HO : Hid (∀ W, RT W rb tb ao n cap f a2 k c p ⟨0, 0, 0, 0, [], false, st, 0⟩ → Calls Tryz.prog 50 #[.pointer (some ⟨rb, 0, none⟩), .pointer (some ⟨tb, 0, none⟩), .int .i64 r] W (ROt W rb tb ao n cap f k c p st o)) := ho
  clear ho hk
  have HP : Hid (point f n (a + 1) = .ok r a2) := hp
  clear hp
  have hz2 : 0 < n - (a + 1) := by omega
  have hz3 : ¬ n - (a + 1) = 0 := by omega
  have hz4 : (((n - (a + 1) : Nat) : Int) == 0) = false := by simp; omega
  have hne : ¬ tb = rb := h.ne
  have hne' : ¬ rb = tb := fun e => h.ne e.symm
  have hn := h.rs.nn
  have ha := h.rs.aa
  have hcc := h.rs.cc
  have hcm := h.rs.cm
  have S0 := h
  have U0 : T2 rb tb w w := lin.Turns.refl _ w
  clear h
  obtain ⟨⟨c0, c1, c2, z1, z2⟩, ⟨k0, k1, k2, k3, k4, k5, k6, k7⟩, ⟨f0, f1, f2, f3, f4, f5, f6, f7⟩⟩ := S0.cells
  go_enter Tryz.func28, Tryz.ntmps28
  have S1 := S0.put1 (x := ((a : Nat) : Int) + 1) (a' := a + 1) (by omega) (by omega)
  have U1 := T2.at U0 1 (.int .i64 (((a : Nat) : Int) + 1))
  clear S0 U0
  have C := rest_t S1 U1
  go_wp2_with fail
  refine C.mono ?_
  rintro e w2 ⟨rfl, S2, U2⟩
  clear C S1 U1
  clear c0 c1 c2 z1 z2 k0 k1 k2 k3 k4 k5 k6 k7 f0 f1 f2 f3 f4 f5 f6 f7
  obtain ⟨⟨c0, c1, c2, z1, z2⟩, ⟨k0, k1, k2, k3, k4, k5, k6, k7⟩, ⟨f0, f1, f2, f3, f4, f5, f6, f7⟩⟩ := S2.cells
  have C := char_ok S2 U2 hl HP.out
  go_wp2_with fail
  refine C.mono ?_
  rintro e w3 ⟨rfl, S3, U3⟩
  clear C S2 U2
  clear c0 c1 c2 z1 z2 k0 k1 k2 k3 k4 k5 k6 k7 f0 f1 f2 f3 f4 f5 f6 f7
  obtain ⟨⟨c0, c1, c2, z1, z2⟩, ⟨k0, k1, k2, k3, k4, k5, k6, k7⟩, ⟨f0, f1, f2, f3, f4, f5, f6, f7⟩⟩ := S3.cells
  have C := HO.out _ S3
  go_wp2_with fail
  refine C.mono ?_
  clear C
  cases o with
  | ok t1 a1 =>
    rintro e w9 ⟨rfl, S9, U9⟩
    go_wp2
    go_ret
    exact ⟨rfl, S9, lin.Turns.trans U3 U9⟩
  | no cc1 pp1 =>
    rintro e w9 ⟨rfl, S9, U9⟩
    go_wp2
    go_ret
    exact ⟨rfl, S9, lin.Turns.trans U3 U9⟩
end Go.Proofs.YtlgkfnecahgedaaGreatDoor.tok
end

section
/- The document's escapes: what is left (TokRef21e). -/
set_option linter.unusedVariables false
set_option linter.unusedSimpArgs false
namespace Go.Proofs.YtlgkfnecahgedaaGreatDoor.tok
open Go.RowKit
open lin (BA Turns)

set_option maxHeartbeats 4000000 in
set_option maxRecDepth 100000 in
theorem resc_hi0 (rb tb : Nat) (ao : Option Addr) (n cap : Nat) (f : Nat → Int) (a k : Nat) (c p : Int) (st : Nat) (w : World) (h : RT w rb tb ao n cap f a k c p ⟨0, 0, 0, 0, [], false, st, 0⟩) (r : Int) (r0 : 0 ≤ r) (hl : a + 1 < n) (a2 : Nat) (hp : point f n (a + 1) = .ok r a2) (ha2 : a2 ≤ n) (n100 : ¬ r = 100) (n119 : ¬ r = 119) (n115 : ¬ r = 115) (n68 : ¬ r = 68) (n87 : ¬ r = 87) (n83 : ¬ r = 83) (n112 : ¬ r = 112) (n80 : ¬ r = 80) (n120 : ¬ r = 120) (n110 : ¬ r = 110) (n116 : ¬ r = 116) (n114 : ¬ r = 114) (hk : k = 0) (ho : ∀ W, RT W rb tb ao n cap f a2 k c p ⟨0, 0, 0, 0, [], false, st, 0⟩ → Calls Tryz.prog 50 #[.pointer (some ⟨rb, 0, none⟩), .pointer (some ⟨tb, 0, none⟩), .int .i64 r] W (fun e w' => e = .returned (.tuple #[.bool false, .bool true]) ∧ RT w' rb tb ao n cap f a2 k c p ⟨0, 0, 0, 0, [], false, st, 0⟩ ∧ T2 rb tb W w')) (hr : 128 ≤ r) :
    Calls Tryz.prog 28 #[.pointer (some ⟨rb, 0, none⟩), .pointer (some ⟨tb, 0, none⟩)] w (REt w rb tb ao n cap f k c p st (.ok (char r) a2)) := by
  have q100 : (r == 100) = false := by simp [n100]
  have q119 : (r == 119) = false := by simp [n119]
  have q115 : (r == 115) = false := by simp [n115]
  have q68 : (r == 68) = false := by simp [n68]
  have q87 : (r == 87) = false := by simp [n87]
  have q83 : (r == 83) = false := by simp [n83]
  have q112 : (r == 112) = false := by simp [n112]
  have q80 : (r == 80) = false := by simp [n80]
  have q120 : (r == 120) = false := by simp [n120]
  have q110 : (r == 110) = false := by simp [n110]
  have q116 : (r == 116) = false := by simp [n116]
  have q114 : (r == 114) = false := by simp [n114]
  clear n100 n119 n115 n68 n87 n83 n112 n80 n120 n110 n116 n114
  have hk2 : (k : Int) = 0 := by omega
  have hk3 : ((k : Int) == 0) = true := by simp; omega
  have HO : Hid (∀ W, RT W rb tb ao n cap f a2 k c p ⟨0, 0, 0, 0, [], false, st, 0⟩ → Calls Tryz.prog 50 #[.pointer (some ⟨rb, 0, none⟩), .pointer (some ⟨tb, 0, none⟩), .int .i64 r] W (fun e w' => e = .returned (.tuple #[.bool false, .bool true]) ∧ RT w' rb tb ao n cap f a2 k c p ⟨0, 0, 0, 0, [], false, st, 0⟩ ∧ T2 rb tb W w')) := ho
  clear ho hk
  have l8 : ¬ r < 128 := by omega
  have HP : Hid (point f n (a + 1) = .ok r a2) := hp
  clear hp
  have hz2 : 0 < n - (a + 1) := by omega
  have hz3 : ¬ n - (a + 1) = 0 := by omega
  have hz4 : (((n - (a + 1) : Nat) : Int) == 0) = false := by simp; omega
  have hne : ¬ tb = rb := h.ne
  have hne' : ¬ rb = tb := fun e => h.ne e.symm
  have hn := h.rs.nn
  have ha := h.rs.aa
  have hcc := h.rs.cc
  have hcm := h.rs.cm
  have S0 := h
  have U0 : T2 rb tb w w := lin.Turns.refl _ w
  clear h
  obtain ⟨⟨c0, c1, c2, z1, z2⟩, ⟨k0, k1, k2, k3, k4, k5, k6, k7⟩, ⟨f0, f1, f2, f3, f4, f5, f6, f7⟩⟩ := S0.cells
  go_enter Tryz.func28, Tryz.ntmps28
  have S1 := S0.put1 (x := ((a : Nat) : Int) + 1) (a' := a + 1) (by omega) (by omega)
  have U1 := T2.at U0 1 (.int .i64 (((a : Nat) : Int) + 1))
  clear S0 U0
  have C := rest_t S1 U1
  go_wp2_with fail
  refine C.mono ?_
  rintro e w2 ⟨rfl, S2, U2⟩
  clear C S1 U1
  clear c0 c1 c2 z1 z2 k0 k1 k2 k3 k4 k5 k6 k7 f0 f1 f2 f3 f4 f5 f6 f7
  obtain ⟨⟨c0, c1, c2, z1, z2⟩, ⟨k0, k1, k2, k3, k4, k5, k6, k7⟩, ⟨f0, f1, f2, f3, f4, f5, f6, f7⟩⟩ := S2.cells
  have C := char_ok S2 U2 hl HP.out
  go_wp2_with fail
  refine C.mono ?_
  rintro e w3 ⟨rfl, S3, U3⟩
  clear C S2 U2
  clear c0 c1 c2 z1 z2 k0 k1 k2 k3 k4 k5 k6 k7 f0 f1 f2 f3 f4 f5 f6 f7
  obtain ⟨⟨c0, c1, c2, z1, z2⟩, ⟨k0, k1, k2, k3, k4, k5, k6, k7⟩, ⟨f0, f1, f2, f3, f4, f5, f6, f7⟩⟩ := S3.cells
  have C := HO.out _ S3
  go_wp2_with fail
  refine C.mono ?_
  rintro e w4 ⟨rfl, S4, V4⟩
  have U4 := lin.Turns.trans U3 V4
  clear C S3 U3 V4
  clear c0 c1 c2 z1 z2 k0 k1 k2 k3 k4 k5 k6 k7 f0 f1 f2 f3 f4 f5 f6 f7
  obtain ⟨⟨c0, c1, c2, z1, z2⟩, ⟨k0, k1, k2, k3, k4, k5, k6, k7⟩, ⟨f0, f1, f2, f3, f4, f5, f6, f7⟩⟩ := S4.cells
  have S5 := S4.t0 1
  have U5 := T2.put U4 0 (.int .i64 1)
  clear S4 U4
  have S6 := S5.t2 r
  have U6 := T2.put U5 2 (.int .i64 r)
  clear S5 U5
  go_wp2
  go_ret
  exact ⟨rfl, S6, U6⟩
set_option maxHeartbeats 4000000 in
set_option maxRecDepth 100000 in
theorem resc_le0 (rb tb : Nat) (ao : Option Addr) (n cap : Nat) (f : Nat → Int) (a k : Nat) (c p : Int) (st : Nat) (w : World) (h : RT w rb tb ao n cap f a k c p ⟨0, 0, 0, 0, [], false, st, 0⟩) (r : Int) (r0 : 0 ≤ r) (hl : a + 1 < n) (a2 : Nat) (hp : point f n (a + 1) = .ok r a2) (ha2 : a2 ≤ n) (n100 : ¬ r = 100) (n119 : ¬ r = 119) (n115 : ¬ r = 115) (n68 : ¬ r = 68) (n87 : ¬ r = 87) (n83 : ¬ r = 83) (n112 : ¬ r = 112) (n80 : ¬ r = 80) (n120 : ¬ r = 120) (n110 : ¬ r = 110) (n116 : ¬ r = 116) (n114 : ¬ r = 114) (hk : k = 0) (ho : ∀ W, RT W rb tb ao n cap f a2 k c p ⟨0, 0, 0, 0, [], false, st, 0⟩ → Calls Tryz.prog 50 #[.pointer (some ⟨rb, 0, none⟩), .pointer (some ⟨tb, 0, none⟩), .int .i64 r] W (fun e w' => e = .returned (.tuple #[.bool false, .bool true]) ∧ RT w' rb tb ao n cap f a2 k c p ⟨0, 0, 0, 0, [], false, st, 0⟩ ∧ T2 rb tb W w')) (hr : r < 128) (h95 : ¬ r = 95) (hle : lettB r = true) :
    Calls Tryz.prog 28 #[.pointer (some ⟨rb, 0, none⟩), .pointer (some ⟨tb, 0, none⟩)] w (REt w rb tb ao n cap f k c p st (.no 132 st)) := by
  have q100 : (r == 100) = false := by simp [n100]
  have q119 : (r == 119) = false := by simp [n119]
  have q115 : (r == 115) = false := by simp [n115]
  have q68 : (r == 68) = false := by simp [n68]
  have q87 : (r == 87) = false := by simp [n87]
  have q83 : (r == 83) = false := by simp [n83]
  have q112 : (r == 112) = false := by simp [n112]
  have q80 : (r == 80) = false := by simp [n80]
  have q120 : (r == 120) = false := by simp [n120]
  have q110 : (r == 110) = false := by simp [n110]
  have q116 : (r == 116) = false := by simp [n116]
  have q114 : (r == 114) = false := by simp [n114]
  clear n100 n119 n115 n68 n87 n83 n112 n80 n120 n110 n116 n114
  have hk2 : (k : Int) = 0 := by omega
  have hk3 : ((k : Int) == 0) = true := by simp; omega
  have HO : Hid (∀ W, RT W rb tb ao n cap f a2 k c p ⟨0, 0, 0, 0, [], false, st, 0⟩ → Calls Tryz.prog 50 #[.pointer (some ⟨rb, 0, none⟩), .pointer (some ⟨tb, 0, none⟩), .int .i64 r] W (fun e w' => e = .returned (.tuple #[.bool false, .bool true]) ∧ RT w' rb tb ao n cap f a2 k c p ⟨0, 0, 0, 0, [], false, st, 0⟩ ∧ T2 rb tb W w')) := ho
  clear ho hk
  have e8 : IntKind.u8.wrap r = r := by rw [IntKind.wrap_u8]; omega
  have l8 : r < 128 := hr
  have m95 : (r != 95) = true := by simp [h95]
  have HLE : Hid (lettB r = true) := hle
  clear hle h95
  have HP : Hid (point f n (a + 1) = .ok r a2) := hp
  clear hp
  have hz2 : 0 < n - (a + 1) := by omega
  have hz3 : ¬ n - (a + 1) = 0 := by omega
  have hz4 : (((n - (a + 1) : Nat) : Int) == 0) = false := by simp; omega
  have hne : ¬ tb = rb := h.ne
  have hne' : ¬ rb = tb := fun e => h.ne e.symm
  have hn := h.rs.nn
  have ha := h.rs.aa
  have hcc := h.rs.cc
  have hcm := h.rs.cm
  have S0 := h
  have U0 : T2 rb tb w w := lin.Turns.refl _ w
  clear h
  obtain ⟨⟨c0, c1, c2, z1, z2⟩, ⟨k0, k1, k2, k3, k4, k5, k6, k7⟩, ⟨f0, f1, f2, f3, f4, f5, f6, f7⟩⟩ := S0.cells
  go_enter Tryz.func28, Tryz.ntmps28
  have S1 := S0.put1 (x := ((a : Nat) : Int) + 1) (a' := a + 1) (by omega) (by omega)
  have U1 := T2.at U0 1 (.int .i64 (((a : Nat) : Int) + 1))
  clear S0 U0
  have C := rest_t S1 U1
  go_wp2_with fail
  refine C.mono ?_
  rintro e w2 ⟨rfl, S2, U2⟩
  clear C S1 U1
  clear c0 c1 c2 z1 z2 k0 k1 k2 k3 k4 k5 k6 k7 f0 f1 f2 f3 f4 f5 f6 f7
  obtain ⟨⟨c0, c1, c2, z1, z2⟩, ⟨k0, k1, k2, k3, k4, k5, k6, k7⟩, ⟨f0, f1, f2, f3, f4, f5, f6, f7⟩⟩ := S2.cells
  have C := char_ok S2 U2 hl HP.out
  go_wp2_with fail
  refine C.mono ?_
  rintro e w3 ⟨rfl, S3, U3⟩
  clear C S2 U2
  clear c0 c1 c2 z1 z2 k0 k1 k2 k3 k4 k5 k6 k7 f0 f1 f2 f3 f4 f5 f6 f7
  obtain ⟨⟨c0, c1, c2, z1, z2⟩, ⟨k0, k1, k2, k3, k4, k5, k6, k7⟩, ⟨f0, f1, f2, f3, f4, f5, f6, f7⟩⟩ := S3.cells
  have C := HO.out _ S3
  go_wp2_with fail
  refine C.mono ?_
  rintro e w4 ⟨rfl, S4, V4⟩
  have U4 := lin.Turns.trans U3 V4
  clear C S3 U3 V4
  clear c0 c1 c2 z1 z2 k0 k1 k2 k3 k4 k5 k6 k7 f0 f1 f2 f3 f4 f5 f6 f7
  obtain ⟨⟨c0, c1, c2, z1, z2⟩, ⟨k0, k1, k2, k3, k4, k5, k6, k7⟩, ⟨f0, f1, f2, f3, f4, f5, f6, f7⟩⟩ := S4.cells
  have C := rletter_any r w4
  rw [HLE.out] at C
  go_wp2_with fail
  refine C.mono ?_
  rintro e w' ⟨rfl, rfl⟩
  clear C
  have C := fail_t S4 U4 132 st
  go_wp2_with fail
  refine C.mono ?_
  rintro e w9 ⟨rfl, S9, U9⟩
  clear C
  go_wp2
  go_ret
  exact ⟨rfl, ⟨_, _, S9⟩, U9⟩
set_option maxHeartbeats 4000000 in
set_option maxRecDepth 100000 in
theorem resc_un0 (rb tb : Nat) (ao : Option Addr) (n cap : Nat) (f : Nat → Int) (a k : Nat) (c p : Int) (st : Nat) (w : World) (h : RT w rb tb ao n cap f a k c p ⟨0, 0, 0, 0, [], false, st, 0⟩) (r : Int) (r0 : 0 ≤ r) (hl : a + 1 < n) (a2 : Nat) (hp : point f n (a + 1) = .ok r a2) (ha2 : a2 ≤ n) (n100 : ¬ r = 100) (n119 : ¬ r = 119) (n115 : ¬ r = 115) (n68 : ¬ r = 68) (n87 : ¬ r = 87) (n83 : ¬ r = 83) (n112 : ¬ r = 112) (n80 : ¬ r = 80) (n120 : ¬ r = 120) (n110 : ¬ r = 110) (n116 : ¬ r = 116) (n114 : ¬ r = 114) (hk : k = 0) (ho : ∀ W, RT W rb tb ao n cap f a2 k c p ⟨0, 0, 0, 0, [], false, st, 0⟩ → Calls Tryz.prog 50 #[.pointer (some ⟨rb, 0, none⟩), .pointer (some ⟨tb, 0, none⟩), .int .i64 r] W (fun e w' => e = .returned (.tuple #[.bool false, .bool true]) ∧ RT w' rb tb ao n cap f a2 k c p ⟨0, 0, 0, 0, [], false, st, 0⟩ ∧ T2 rb tb W w')) (hr : r < 128) (h95 : r = 95) :
    Calls Tryz.prog 28 #[.pointer (some ⟨rb, 0, none⟩), .pointer (some ⟨tb, 0, none⟩)] w (REt w rb tb ao n cap f k c p st (.ok (char r) a2)) := by
  have q100 : (r == 100) = false := by simp [n100]
  have q119 : (r == 119) = false := by simp [n119]
  have q115 : (r == 115) = false := by simp [n115]
  have q68 : (r == 68) = false := by simp [n68]
  have q87 : (r == 87) = false := by simp [n87]
  have q83 : (r == 83) = false := by simp [n83]
  have q112 : (r == 112) = false := by simp [n112]
  have q80 : (r == 80) = false := by simp [n80]
  have q120 : (r == 120) = false := by simp [n120]
  have q110 : (r == 110) = false := by simp [n110]
  have q116 : (r == 116) = false := by simp [n116]
  have q114 : (r == 114) = false := by simp [n114]
  clear n100 n119 n115 n68 n87 n83 n112 n80 n120 n110 n116 n114
  have hk2 : (k : Int) = 0 := by omega
  have hk3 : ((k : Int) == 0) = true := by simp; omega
  have HO : Hid (∀ W, RT W rb tb ao n cap f a2 k c p ⟨0, 0, 0, 0, [], false, st, 0⟩ → Calls Tryz.prog 50 #[.pointer (some ⟨rb, 0, none⟩), .pointer (some ⟨tb, 0, none⟩), .int .i64 r] W (fun e w' => e = .returned (.tuple #[.bool false, .bool true]) ∧ RT w' rb tb ao n cap f a2 k c p ⟨0, 0, 0, 0, [], false, st, 0⟩ ∧ T2 rb tb W w')) := ho
  clear ho hk
  have e8 : IntKind.u8.wrap r = r := by rw [IntKind.wrap_u8]; omega
  have l8 : r < 128 := hr
  have m95 : (r != 95) = false := by simp [h95]
  have HLE : Hid (lettB r = true) := by unfold Hid; rw [h95]; rfl
  have HDG : Hid (digitB r = false) := by unfold Hid; rw [h95]; rfl
  clear h95
  have HP : Hid (point f n (a + 1) = .ok r a2) := hp
  clear hp
  have hz2 : 0 < n - (a + 1) := by omega
  have hz3 : ¬ n - (a + 1) = 0 := by omega
  have hz4 : (((n - (a + 1) : Nat) : Int) == 0) = false := by simp; omega
  have hne : ¬ tb = rb := h.ne
  have hne' : ¬ rb = tb := fun e => h.ne e.symm
  have hn := h.rs.nn
  have ha := h.rs.aa
  have hcc := h.rs.cc
  have hcm := h.rs.cm
  have S0 := h
  have U0 : T2 rb tb w w := lin.Turns.refl _ w
  clear h
  obtain ⟨⟨c0, c1, c2, z1, z2⟩, ⟨k0, k1, k2, k3, k4, k5, k6, k7⟩, ⟨f0, f1, f2, f3, f4, f5, f6, f7⟩⟩ := S0.cells
  go_enter Tryz.func28, Tryz.ntmps28
  have S1 := S0.put1 (x := ((a : Nat) : Int) + 1) (a' := a + 1) (by omega) (by omega)
  have U1 := T2.at U0 1 (.int .i64 (((a : Nat) : Int) + 1))
  clear S0 U0
  have C := rest_t S1 U1
  go_wp2_with fail
  refine C.mono ?_
  rintro e w2 ⟨rfl, S2, U2⟩
  clear C S1 U1
  clear c0 c1 c2 z1 z2 k0 k1 k2 k3 k4 k5 k6 k7 f0 f1 f2 f3 f4 f5 f6 f7
  obtain ⟨⟨c0, c1, c2, z1, z2⟩, ⟨k0, k1, k2, k3, k4, k5, k6, k7⟩, ⟨f0, f1, f2, f3, f4, f5, f6, f7⟩⟩ := S2.cells
  have C := char_ok S2 U2 hl HP.out
  go_wp2_with fail
  refine C.mono ?_
  rintro e w3 ⟨rfl, S3, U3⟩
  clear C S2 U2
  clear c0 c1 c2 z1 z2 k0 k1 k2 k3 k4 k5 k6 k7 f0 f1 f2 f3 f4 f5 f6 f7
  obtain ⟨⟨c0, c1, c2, z1, z2⟩, ⟨k0, k1, k2, k3, k4, k5, k6, k7⟩, ⟨f0, f1, f2, f3, f4, f5, f6, f7⟩⟩ := S3.cells
  have C := HO.out _ S3
  go_wp2_with fail
  refine C.mono ?_
  rintro e w4 ⟨rfl, S4, V4⟩
  have U4 := lin.Turns.trans U3 V4
  clear C S3 U3 V4
  clear c0 c1 c2 z1 z2 k0 k1 k2 k3 k4 k5 k6 k7 f0 f1 f2 f3 f4 f5 f6 f7
  obtain ⟨⟨c0, c1, c2, z1, z2⟩, ⟨k0, k1, k2, k3, k4, k5, k6, k7⟩, ⟨f0, f1, f2, f3, f4, f5, f6, f7⟩⟩ := S4.cells
  have C := rletter_any r w4
  rw [HLE.out] at C
  go_wp2_with fail
  refine C.mono ?_
  rintro e w' ⟨rfl, rfl⟩
  clear C
  have C := rdigit_any r w'
  rw [HDG.out] at C
  go_wp2_with fail
  refine C.mono ?_
  rintro e w' ⟨rfl, rfl⟩
  clear C
  have S5 := S4.t0 1
  have U5 := T2.put U4 0 (.int .i64 1)
  clear S4 U4
  have S6 := S5.t2 r
  have U6 := T2.put U5 2 (.int .i64 r)
  clear S5 U5
  go_wp2
  go_ret
  exact ⟨rfl, S6, U6⟩
set_option maxHeartbeats 4000000 in
set_option maxRecDepth 100000 in
theorem resc_dg0 (rb tb : Nat) (ao : Option Addr) (n cap : Nat) (f : Nat → Int) (a k : Nat) (c p : Int) (st : Nat) (w : World) (h : RT w rb tb ao n cap f a k c p ⟨0, 0, 0, 0, [], false, st, 0⟩) (r : Int) (r0 : 0 ≤ r) (hl : a + 1 < n) (a2 : Nat) (hp : point f n (a + 1) = .ok r a2) (ha2 : a2 ≤ n) (n100 : ¬ r = 100) (n119 : ¬ r = 119) (n115 : ¬ r = 115) (n68 : ¬ r = 68) (n87 : ¬ r = 87) (n83 : ¬ r = 83) (n112 : ¬ r = 112) (n80 : ¬ r = 80) (n120 : ¬ r = 120) (n110 : ¬ r = 110) (n116 : ¬ r = 116) (n114 : ¬ r = 114) (hk : k = 0) (ho : ∀ W, RT W rb tb ao n cap f a2 k c p ⟨0, 0, 0, 0, [], false, st, 0⟩ → Calls Tryz.prog 50 #[.pointer (some ⟨rb, 0, none⟩), .pointer (some ⟨tb, 0, none⟩), .int .i64 r] W (fun e w' => e = .returned (.tuple #[.bool false, .bool true]) ∧ RT w' rb tb ao n cap f a2 k c p ⟨0, 0, 0, 0, [], false, st, 0⟩ ∧ T2 rb tb W w')) (hr : r < 128) (hle : lettB r = false) (hdg : digitB r = true) :
    Calls Tryz.prog 28 #[.pointer (some ⟨rb, 0, none⟩), .pointer (some ⟨tb, 0, none⟩)] w (REt w rb tb ao n cap f k c p st (.no 132 st)) := by
  have q100 : (r == 100) = false := by simp [n100]
  have q119 : (r == 119) = false := by simp [n119]
  have q115 : (r == 115) = false := by simp [n115]
  have q68 : (r == 68) = false := by simp [n68]
  have q87 : (r == 87) = false := by simp [n87]
  have q83 : (r == 83) = false := by simp [n83]
  have q112 : (r == 112) = false := by simp [n112]
  have q80 : (r == 80) = false := by simp [n80]
  have q120 : (r == 120) = false := by simp [n120]
  have q110 : (r == 110) = false := by simp [n110]
  have q116 : (r == 116) = false := by simp [n116]
  have q114 : (r == 114) = false := by simp [n114]
  clear n100 n119 n115 n68 n87 n83 n112 n80 n120 n110 n116 n114
  have hk2 : (k : Int) = 0 := by omega
  have hk3 : ((k : Int) == 0) = true := by simp; omega
  have HO : Hid (∀ W, RT W rb tb ao n cap f a2 k c p ⟨0, 0, 0, 0, [], false, st, 0⟩ → Calls Tryz.prog 50 #[.pointer (some ⟨rb, 0, none⟩), .pointer (some ⟨tb, 0, none⟩), .int .i64 r] W (fun e w' => e = .returned (.tuple #[.bool false, .bool true]) ∧ RT w' rb tb ao n cap f a2 k c p ⟨0, 0, 0, 0, [], false, st, 0⟩ ∧ T2 rb tb W w')) := ho
  clear ho hk
  have e8 : IntKind.u8.wrap r = r := by rw [IntKind.wrap_u8]; omega
  have l8 : r < 128 := hr
  have HLE : Hid (lettB r = false) := hle
  have HDG : Hid (digitB r = true) := hdg
  clear hle hdg
  have HP : Hid (point f n (a + 1) = .ok r a2) := hp
  clear hp
  have hz2 : 0 < n - (a + 1) := by omega
  have hz3 : ¬ n - (a + 1) = 0 := by omega
  have hz4 : (((n - (a + 1) : Nat) : Int) == 0) = false := by simp; omega
  have hne : ¬ tb = rb := h.ne
  have hne' : ¬ rb = tb := fun e => h.ne e.symm
  have hn := h.rs.nn
  have ha := h.rs.aa
  have hcc := h.rs.cc
  have hcm := h.rs.cm
  have S0 := h
  have U0 : T2 rb tb w w := lin.Turns.refl _ w
  clear h
  obtain ⟨⟨c0, c1, c2, z1, z2⟩, ⟨k0, k1, k2, k3, k4, k5, k6, k7⟩, ⟨f0, f1, f2, f3, f4, f5, f6, f7⟩⟩ := S0.cells
  go_enter Tryz.func28, Tryz.ntmps28
  have S1 := S0.put1 (x := ((a : Nat) : Int) + 1) (a' := a + 1) (by omega) (by omega)
  have U1 := T2.at U0 1 (.int .i64 (((a : Nat) : Int) + 1))
  clear S0 U0
  have C := rest_t S1 U1
  go_wp2_with fail
  refine C.mono ?_
  rintro e w2 ⟨rfl, S2, U2⟩
  clear C S1 U1
  clear c0 c1 c2 z1 z2 k0 k1 k2 k3 k4 k5 k6 k7 f0 f1 f2 f3 f4 f5 f6 f7
  obtain ⟨⟨c0, c1, c2, z1, z2⟩, ⟨k0, k1, k2, k3, k4, k5, k6, k7⟩, ⟨f0, f1, f2, f3, f4, f5, f6, f7⟩⟩ := S2.cells
  have C := char_ok S2 U2 hl HP.out
  go_wp2_with fail
  refine C.mono ?_
  rintro e w3 ⟨rfl, S3, U3⟩
  clear C S2 U2
  clear c0 c1 c2 z1 z2 k0 k1 k2 k3 k4 k5 k6 k7 f0 f1 f2 f3 f4 f5 f6 f7
  obtain ⟨⟨c0, c1, c2, z1, z2⟩, ⟨k0, k1, k2, k3, k4, k5, k6, k7⟩, ⟨f0, f1, f2, f3, f4, f5, f6, f7⟩⟩ := S3.cells
  have C := HO.out _ S3
  go_wp2_with fail
  refine C.mono ?_
  rintro e w4 ⟨rfl, S4, V4⟩
  have U4 := lin.Turns.trans U3 V4
  clear C S3 U3 V4
  clear c0 c1 c2 z1 z2 k0 k1 k2 k3 k4 k5 k6 k7 f0 f1 f2 f3 f4 f5 f6 f7
  obtain ⟨⟨c0, c1, c2, z1, z2⟩, ⟨k0, k1, k2, k3, k4, k5, k6, k7⟩, ⟨f0, f1, f2, f3, f4, f5, f6, f7⟩⟩ := S4.cells
  have C := rletter_any r w4
  rw [HLE.out] at C
  go_wp2_with fail
  refine C.mono ?_
  rintro e w' ⟨rfl, rfl⟩
  clear C
  have C := rdigit_any r w'
  rw [HDG.out] at C
  go_wp2_with fail
  refine C.mono ?_
  rintro e w' ⟨rfl, rfl⟩
  clear C
  have C := fail_t S4 U4 132 st
  go_wp2_with fail
  refine C.mono ?_
  rintro e w9 ⟨rfl, S9, U9⟩
  clear C
  go_wp2
  go_ret
  exact ⟨rfl, ⟨_, _, S9⟩, U9⟩
set_option maxHeartbeats 4000000 in
set_option maxRecDepth 100000 in
theorem resc_no0 (rb tb : Nat) (ao : Option Addr) (n cap : Nat) (f : Nat → Int) (a k : Nat) (c p : Int) (st : Nat) (w : World) (h : RT w rb tb ao n cap f a k c p ⟨0, 0, 0, 0, [], false, st, 0⟩) (r : Int) (r0 : 0 ≤ r) (hl : a + 1 < n) (a2 : Nat) (hp : point f n (a + 1) = .ok r a2) (ha2 : a2 ≤ n) (n100 : ¬ r = 100) (n119 : ¬ r = 119) (n115 : ¬ r = 115) (n68 : ¬ r = 68) (n87 : ¬ r = 87) (n83 : ¬ r = 83) (n112 : ¬ r = 112) (n80 : ¬ r = 80) (n120 : ¬ r = 120) (n110 : ¬ r = 110) (n116 : ¬ r = 116) (n114 : ¬ r = 114) (hk : k = 0) (ho : ∀ W, RT W rb tb ao n cap f a2 k c p ⟨0, 0, 0, 0, [], false, st, 0⟩ → Calls Tryz.prog 50 #[.pointer (some ⟨rb, 0, none⟩), .pointer (some ⟨tb, 0, none⟩), .int .i64 r] W (fun e w' => e = .returned (.tuple #[.bool false, .bool true]) ∧ RT w' rb tb ao n cap f a2 k c p ⟨0, 0, 0, 0, [], false, st, 0⟩ ∧ T2 rb tb W w')) (hr : r < 128) (hle : lettB r = false) (hdg : digitB r = false) :
    Calls Tryz.prog 28 #[.pointer (some ⟨rb, 0, none⟩), .pointer (some ⟨tb, 0, none⟩)] w (REt w rb tb ao n cap f k c p st (.ok (char r) a2)) := by
  have q100 : (r == 100) = false := by simp [n100]
  have q119 : (r == 119) = false := by simp [n119]
  have q115 : (r == 115) = false := by simp [n115]
  have q68 : (r == 68) = false := by simp [n68]
  have q87 : (r == 87) = false := by simp [n87]
  have q83 : (r == 83) = false := by simp [n83]
  have q112 : (r == 112) = false := by simp [n112]
  have q80 : (r == 80) = false := by simp [n80]
  have q120 : (r == 120) = false := by simp [n120]
  have q110 : (r == 110) = false := by simp [n110]
  have q116 : (r == 116) = false := by simp [n116]
  have q114 : (r == 114) = false := by simp [n114]
  clear n100 n119 n115 n68 n87 n83 n112 n80 n120 n110 n116 n114
  have hk2 : (k : Int) = 0 := by omega
  have hk3 : ((k : Int) == 0) = true := by simp; omega
  have HO : Hid (∀ W, RT W rb tb ao n cap f a2 k c p ⟨0, 0, 0, 0, [], false, st, 0⟩ → Calls Tryz.prog 50 #[.pointer (some ⟨rb, 0, none⟩), .pointer (some ⟨tb, 0, none⟩), .int .i64 r] W (fun e w' => e = .returned (.tuple #[.bool false, .bool true]) ∧ RT w' rb tb ao n cap f a2 k c p ⟨0, 0, 0, 0, [], false, st, 0⟩ ∧ T2 rb tb W w')) := ho
  clear ho hk
  have e8 : IntKind.u8.wrap r = r := by rw [IntKind.wrap_u8]; omega
  have l8 : r < 128 := hr
  have HLE : Hid (lettB r = false) := hle
  have HDG : Hid (digitB r = false) := hdg
  clear hle hdg
  have HP : Hid (point f n (a + 1) = .ok r a2) := hp
  clear hp
  have hz2 : 0 < n - (a + 1) := by omega
  have hz3 : ¬ n - (a + 1) = 0 := by omega
  have hz4 : (((n - (a + 1) : Nat) : Int) == 0) = false := by simp; omega
  have hne : ¬ tb = rb := h.ne
  have hne' : ¬ rb = tb := fun e => h.ne e.symm
  have hn := h.rs.nn
  have ha := h.rs.aa
  have hcc := h.rs.cc
  have hcm := h.rs.cm
  have S0 := h
  have U0 : T2 rb tb w w := lin.Turns.refl _ w
  clear h
  obtain ⟨⟨c0, c1, c2, z1, z2⟩, ⟨k0, k1, k2, k3, k4, k5, k6, k7⟩, ⟨f0, f1, f2, f3, f4, f5, f6, f7⟩⟩ := S0.cells
  go_enter Tryz.func28, Tryz.ntmps28
  have S1 := S0.put1 (x := ((a : Nat) : Int) + 1) (a' := a + 1) (by omega) (by omega)
  have U1 := T2.at U0 1 (.int .i64 (((a : Nat) : Int) + 1))
  clear S0 U0
  have C := rest_t S1 U1
  go_wp2_with fail
  refine C.mono ?_
  rintro e w2 ⟨rfl, S2, U2⟩
  clear C S1 U1
  clear c0 c1 c2 z1 z2 k0 k1 k2 k3 k4 k5 k6 k7 f0 f1 f2 f3 f4 f5 f6 f7
  obtain ⟨⟨c0, c1, c2, z1, z2⟩, ⟨k0, k1, k2, k3, k4, k5, k6, k7⟩, ⟨f0, f1, f2, f3, f4, f5, f6, f7⟩⟩ := S2.cells
  have C := char_ok S2 U2 hl HP.out
  go_wp2_with fail
  refine C.mono ?_
  rintro e w3 ⟨rfl, S3, U3⟩
  clear C S2 U2
  clear c0 c1 c2 z1 z2 k0 k1 k2 k3 k4 k5 k6 k7 f0 f1 f2 f3 f4 f5 f6 f7
  obtain ⟨⟨c0, c1, c2, z1, z2⟩, ⟨k0, k1, k2, k3, k4, k5, k6, k7⟩, ⟨f0, f1, f2, f3, f4, f5, f6, f7⟩⟩ := S3.cells
  have C := HO.out _ S3
  go_wp2_with fail
  refine C.mono ?_
  rintro e w4 ⟨rfl, S4, V4⟩
  have U4 := lin.Turns.trans U3 V4
  clear C S3 U3 V4
  clear c0 c1 c2 z1 z2 k0 k1 k2 k3 k4 k5 k6 k7 f0 f1 f2 f3 f4 f5 f6 f7
  obtain ⟨⟨c0, c1, c2, z1, z2⟩, ⟨k0, k1, k2, k3, k4, k5, k6, k7⟩, ⟨f0, f1, f2, f3, f4, f5, f6, f7⟩⟩ := S4.cells
  have C := rletter_any r w4
  rw [HLE.out] at C
  go_wp2_with fail
  refine C.mono ?_
  rintro e w' ⟨rfl, rfl⟩
  clear C
  have C := rdigit_any r w'
  rw [HDG.out] at C
  go_wp2_with fail
  refine C.mono ?_
  rintro e w' ⟨rfl, rfl⟩
  clear C
  have S5 := S4.t0 1
  have U5 := T2.put U4 0 (.int .i64 1)
  clear S4 U4
  have S6 := S5.t2 r
  have U6 := T2.put U5 2 (.int .i64 r)
  clear S5 U5
  go_wp2
  go_ret
  exact ⟨rfl, S6, U6⟩
end Go.Proofs.YtlgkfnecahgedaaGreatDoor.tok
end
