/- Texts that the proof leans on, one behind the other. -/
import Derived.Test.YtlgkfnecahgedaaGreatDoorBdTok16
import Derived.Test.YtlgkfnecahgedaaGreatDoorBdTok17
import Derived.Test.YtlgkfnecahgedaaGreatDoorBdTok10
import Derived.Test.YtlgkfnecahgedaaGreatDoorBdTok15
import Derived.Test.YtlgkfnecahgedaaGreatDoorBdTok11

section
/- The document's brackets. -/
set_option linter.unusedVariables false
set_option linter.unusedSimpArgs false
namespace Go.Proofs.YtlgkfnecahgedaaGreatDoor.tok
open Go.RowKit
open lin (BA Turns)

theorem has_1 (f : Nat → Int) (n a : Nat) (x : UInt8) : hasB f n a [x] = at_ f n a (x.toNat : Int) := by simp [hasB]
theorem has_2 (f : Nat → Int) (n a : Nat) (x y : UInt8) : hasB f n a [x, y] = (at_ f n a (x.toNat : Int) && at_ f n (a + 1) (y.toNat : Int)) := by simp [hasB]
theorem has_3 (f : Nat → Int) (n a : Nat) (x y z : UInt8) : hasB f n a [x, y, z] = (at_ f n a (x.toNat : Int) && (at_ f n (a + 1) (y.toNat : Int) && at_ f n (a + 1 + 1) (z.toNat : Int))) := by simp [hasB]
theorem at_t {f : Nat → Int} {n a : Nat} {c : Int} (h : a < n) (e : f a = c) : at_ f n a c = true := (at_eq f n a c).2 ⟨h, e⟩
theorem at_f {f : Nat → Int} {n a : Nat} {c : Int} (e : ¬ f a = c) : at_ f n a c = false := (at_ne f n a c).2 (fun h => e h.2)
set_option maxHeartbeats 4000000 in
set_option maxRecDepth 100000 in
theorem ropen (rb tb : Nat) (ao : Option Addr) (n cap : Nat) (f : Nat → Int) (a k : Nat) (c p : Int) (st : Nat) (w : World) (h : RT w rb tb ao n cap f a k c p ⟨0, 0, 0, 0, [], false, st, 0⟩) (hst : noneC f st = 133) (hl : a < n) :
    Calls Tryz.prog 45 #[.pointer (some ⟨rb, 0, none⟩), .pointer (some ⟨tb, 0, none⟩)] w (REt w rb tb ao n cap f k c p st (open_ f n st (a + 1))) := by
  have hn1 := h.rs.aa
  unfold open_
  by_cases h63 : a + 1 < n ∧ f (a + 1) = 63
  · obtain ⟨hl1, e1⟩ := h63
    have p0 : hasB f n (a + 1) [63] = true := by rw [has_1]; exact at_t hl1 e1
    rw [if_pos (at_t hl1 e1)]
    by_cases hl2 : a + 1 + 1 < n
    · have q : ∀ x y : UInt8, x.toNat = 63 → ¬ f (a + 1 + 1) = (y.toNat : Int) → hasB f n (a + 1) [x, y] = false := fun x y hx hy => by rw [has_2, at_f hy, Bool.and_false]
      have q3 : ∀ x y z : UInt8, ¬ f (a + 1 + 1) = (y.toNat : Int) → hasB f n (a + 1) [x, y, z] = false := fun x y z hy => by rw [has_3, at_f hy, Bool.false_and, Bool.and_false]
      have qt : ∀ y : UInt8, f (a + 1 + 1) = (y.toNat : Int) → hasB f n (a + 1) [63, y] = true := fun y hy => by rw [has_2, at_t hl2 hy, show at_ f n (a + 1) ((63 : UInt8).toNat : Int) = true from at_t hl1 e1]; rfl
      have en1 : endsB f n (a + 1) [63, 58] = false := ends_short f n _ _ (by simp; omega)
      rw [octet_lt f n hl2, bind_ok]
      generalize hx : f (a + 1 + 1) = x at *
      by_cases h58 : x = 58
      · rw [if_pos h58]; exact ropen_f0 rb tb ao n cap f a k c p st w h hst hl (by omega) p0 (qt 58 h58)
      rw [if_neg h58]
      have q0 := q 63 58 rfl h58
      by_cases h61 : x = 61
      · rw [if_pos h61]; exact ropen_f1 rb tb ao n cap f a k c p st w h hst hl (by omega) p0 q0 (qt 61 h61)
      rw [if_neg h61]
      have q1 := q 63 61 rfl h61
      by_cases h33 : x = 33
      · rw [if_pos h33]; exact ropen_f2 rb tb ao n cap f a k c p st w h hst hl (by omega) p0 q0 q1 (qt 33 h33)
      rw [if_neg h33]
      have q2 := q 63 33 rfl h33
      by_cases h62 : x = 62
      · rw [if_pos h62]
        exact ropen_f5 rb tb ao n cap f a k c p st w h hst hl (by omega) p0 q0 q1 q2 (q3 63 60 61 (by rw [h62]; decide)) (q3 63 60 33 (by rw [h62]; decide)) (qt 62 h62)
      rw [if_neg h62]
      have q5 := q 63 62 rfl h62
      by_cases h60 : x = 60
      · rw [if_pos h60]
        unfold openLeft
        have r3 : ∀ z : UInt8, hasB f n (a + 1) [63, 60, z] = at_ f n (a + 1 + 1 + 1) (z.toNat : Int) := fun z => by
          rw [has_3, show at_ f n (a + 1) ((63 : UInt8).toNat : Int) = true from at_t hl1 e1, show at_ f n (a + 1 + 1) ((60 : UInt8).toNat : Int) = true from at_t hl2 (hx.trans h60), Bool.true_and, Bool.true_and]
        by_cases g61 : a + 1 + 1 + 1 < n ∧ f (a + 1 + 1 + 1) = 61
        · rw [if_pos (at_t g61.1 g61.2)]
          exact ropen_f3 rb tb ao n cap f a k c p st w h hst hl (by omega) p0 q0 q1 q2 ((r3 61).trans (at_t g61.1 g61.2))
        have m61 := (at_ne f n _ _).2 g61
        rw [m61, if_neg (by decide)]
        by_cases g33 : a + 1 + 1 + 1 < n ∧ f (a + 1 + 1 + 1) = 33
        · rw [if_pos (at_t g33.1 g33.2)]
          exact ropen_f4 rb tb ao n cap f a k c p st w h hst hl (by omega) p0 q0 q1 q2 ((r3 61).trans m61) ((r3 33).trans (at_t g33.1 g33.2))
        have m33 := (at_ne f n _ _).2 g33
        rw [m33, if_neg (by decide)]
        by_cases hl3 : a + 1 + 1 + 1 < n
        · exact ropen_nm rb tb ao n cap f a k c p st w h hst hl (by omega) p0 q0 q1 q2 ((r3 61).trans m61) ((r3 33).trans m33) q5 en1 (ends_short f n _ _ (by simp; omega)) (qt 60 h60)
        · have hn3 : a + 1 + 1 + 1 = n := by omega
          have e2 : endsB f n (a + 1) [63, 60, 61] = true := by
            have := ends_eq f n h.rs.ff [63, 60, 61] (a + 1) (by omega) (by simp; omega)
            rw [← this, show n - (a + 1) = 2 by omega]
            have b2 := has_eq f n h.rs.ff [63, 60] (a + 1) (by simp; omega)
            rw [qt 60 h60] at b2
            rw [show n = a + 1 + [(63 : UInt8), 60].length by simp; omega]
            exact b2
          have nm : name f n st (a + 1 + 1 + 1) = .no 130 n := by
            unfold name; rw [nmR_go, octet_ge f n (by omega), bind_no]
          rw [nm, bind_no]
          exact ropen_e2 rb tb ao n cap f a k c p st w h hst hl p0 q0 q1 q2 ((r3 61).trans m61) ((r3 33).trans m33) q5 en1 e2
      rw [if_neg h60]
      have l1 := q 63 60 rfl h60
      have q3' := q3 63 60 61 h60
      have q4' := q3 63 60 33 h60
      have e2 : endsB f n (a + 1) [63, 60, 61] = false := by
        by_cases hl3 : a + 1 + 1 + 1 < n
        · exact ends_short f n _ _ (by simp; omega)
        · have := ends_eq f n h.rs.ff [63, 60, 61] (a + 1) (by omega) (by simp; omega)
          rw [← this, show n - (a + 1) = 2 by omega]
          have b2 := has_eq f n h.rs.ff [63, 60] (a + 1) (by simp; omega)
          rw [l1] at b2
          rw [show n = a + 1 + [(63 : UInt8), 60].length by simp; omega]
          exact b2
      unfold nope
      rw [hst]
      exact ropen_no rb tb ao n cap f a k c p st w h hst hl p0 q0 q1 q2 q3' q4' q5 en1 e2 l1
    · have hn2 : a + 1 + 1 = n := by omega
      rw [octet_ge f n hl2, bind_no]
      have q : ∀ y : UInt8, hasB f n (a + 1) [63, y] = false := fun y => has_long f n _ _ (by omega) (by simp; omega)
      have q3 : ∀ y z : UInt8, hasB f n (a + 1) [63, y, z] = false := fun y z => has_long f n _ _ (by omega) (by simp; omega)
      have en1 : endsB f n (a + 1) [63, 58] = true := by
        have := ends_eq f n h.rs.ff [63, 58] (a + 1) (by omega) (by simp; omega)
        rw [← this, show n - (a + 1) = 1 by omega]
        have b1 := has_eq f n h.rs.ff [63] (a + 1) (by simp; omega)
        rw [p0] at b1
        rw [show n = a + 1 + [(63 : UInt8)].length by simp; omega]
        exact b1
      exact ropen_e1 rb tb ao n cap f a k c p st w h hst hl p0 (q _) (q _) (q _) (q3 _ _) (q3 _ _) (q _) en1
  · rw [(at_ne f n _ _).2 h63, if_neg (by decide)]
    exact ropen_0 rb tb ao n cap f a k c p st w h hst hl (by rw [has_1]; exact (at_ne f n _ _).2 h63)
end Go.Proofs.YtlgkfnecahgedaaGreatDoor.tok
end

section
/- The document's properties. -/
set_option linter.unusedVariables false
set_option linter.unusedSimpArgs false
namespace Go.Proofs.YtlgkfnecahgedaaGreatDoor.tok
open Go.RowKit
open lin (BA Turns)

theorem char_t {w W : World} {rb tb : Nat} {ao : Option Addr} {n cap : Nat} {f : Nat → Int} {a k : Nat} {c p : Int} {t : Tk} (S : RT W rb tb ao n cap f a k c p t) (T : T2 rb tb w W) (hl : a < n) :
    Calls Tryz.prog 29 #[.pointer (some ⟨rb, 0, none⟩)] W fun e w' =>
      (∃ r a', point f n a = .ok r a' ∧ e = .returned (cv r) ∧ RT w' rb tb ao n cap f a' k c p t ∧ T2 rb tb w w') ∨ (∃ c' p' a', point f n a = .no c' p' ∧ e = .returned (.tuple #[.int .i64 0, .bool false]) ∧ RT w' rb tb ao n cap f a' k c' p' t ∧ T2 rb tb w w') := by
  refine (rchar_any rb ao n cap f a k c p W S.rs hl).mono fun e w' h => ?_
  cases hq : point f n a with
  | ok r a' => rw [hq] at h; exact .inl ⟨r, a', rfl, h.1, S.call h.2.1 h.2.2, T2.then T h.2.2⟩
  | no c' p' => rw [hq] at h; obtain ⟨h1, ⟨a', h2⟩, h3⟩ := h; exact .inr ⟨c', p', a', rfl, h1, S.call h2 h3, T2.then T h3⟩
theorem RT.conv {w : World} {rb tb : Nat} {n cap : Nat} {f : Nat → Int} {a k : Nat} {c p : Int} {t : Tk} {b off : Nat} (h : RT w rb tb (some ⟨b, off, none⟩) n cap f a k c p t) (b0 e0 d : Nat) (h0 : b0 ≤ e0) (h1 : e0 ≤ n) :
    (convert 22 9 (.slice (some ⟨b, off + b0, none⟩) (e0 - b0) d)).run Tryz.prog w = .ok (.string (BA (bytes f b0 e0))) w := h.rs.conv b0 e0 d h0 h1
set_option maxHeartbeats 4000000 in
set_option maxRecDepth 100000 in
theorem rprop_end (rb tb : Nat) (neg : Bool) (ao : Option Addr) (n cap : Nat) (f : Nat → Int) (a k : Nat) (c p : Int) (st : Nat) (w : World) (h : RT w rb tb ao n cap f a k c p ⟨0, 0, 0, 0, [], neg, st, 0⟩) (hl : a = n) :
    Calls Tryz.prog 48 #[.pointer (some ⟨rb, 0, none⟩), .pointer (some ⟨tb, 0, none⟩)] w (REt w rb tb ao n cap f k c p st (.no 130 n)) := by
  have hz2 : n - a = 0 := by omega
  have hz3 : ((n - a : Nat) : Int) = 0 := by omega
  have hz4 : (((n - a : Nat) : Int) == 0) = true := by simp; omega
  clear hl
  have hne : ¬ tb = rb := h.ne
  have hne' : ¬ rb = tb := fun e => h.ne e.symm
  have hn := h.rs.nn
  have ha := h.rs.aa
  have hcc := h.rs.cc
  have hcm := h.rs.cm
  have S0 := h
  have U0 : T2 rb tb w w := lin.Turns.refl _ w
  clear h
  obtain ⟨⟨c0, c1, c2, z1, z2⟩, ⟨k0, k1, k2, k3, k4, k5, k6, k7⟩, ⟨f0, f1, f2, f3, f4, f5, f6, f7⟩⟩ := S0.cells
  go_enter Tryz.func48, Tryz.ntmps48
  have C := rest_t S0 U0
  go_wp2_with fail
  refine C.mono ?_
  rintro e w1 ⟨rfl, S1, U1⟩
  clear C S0 U0
  clear c0 c1 c2 z1 z2 k0 k1 k2 k3 k4 k5 k6 k7 f0 f1 f2 f3 f4 f5 f6 f7
  obtain ⟨⟨c0, c1, c2, z1, z2⟩, ⟨k0, k1, k2, k3, k4, k5, k6, k7⟩, ⟨f0, f1, f2, f3, f4, f5, f6, f7⟩⟩ := S1.cells
  have C := fail_t S1 U1 130 n
  go_wp2_with fail
  refine C.mono ?_
  rintro e w9 ⟨rfl, S9, U9⟩
  clear C
  go_wp2
  go_ret
  exact ⟨rfl, ⟨_, _, S9⟩, U9⟩
set_option maxHeartbeats 4000000 in
set_option maxRecDepth 100000 in
theorem rprop_no (rb tb : Nat) (neg : Bool) (ao : Option Addr) (n cap : Nat) (f : Nat → Int) (a k : Nat) (c p : Int) (st : Nat) (w : World) (h : RT w rb tb ao n cap f a k c p ⟨0, 0, 0, 0, [], neg, st, 0⟩) (hl : a < n) (q0 : hasB f n a [123] = false) :
    Calls Tryz.prog 48 #[.pointer (some ⟨rb, 0, none⟩), .pointer (some ⟨tb, 0, none⟩)] w (REt w rb tb ao n cap f k c p st (.no 132 st)) := by
  have Q0 : Hid (hasB f n a [123] = false) := q0
  clear q0
  have hz2 : 0 < n - a := by omega
  have hz3 : ¬ n - a = 0 := by omega
  have hz4 : (((n - a : Nat) : Int) == 0) = false := by simp; omega
  have hne : ¬ tb = rb := h.ne
  have hne' : ¬ rb = tb := fun e => h.ne e.symm
  have hn := h.rs.nn
  have ha := h.rs.aa
  have hcc := h.rs.cc
  have hcm := h.rs.cm
  have S0 := h
  have U0 : T2 rb tb w w := lin.Turns.refl _ w
  clear h
  obtain ⟨⟨c0, c1, c2, z1, z2⟩, ⟨k0, k1, k2, k3, k4, k5, k6, k7⟩, ⟨f0, f1, f2, f3, f4, f5, f6, f7⟩⟩ := S0.cells
  go_enter Tryz.func48, Tryz.ntmps48
  have C := rest_t S0 U0
  go_wp2_with fail
  refine C.mono ?_
  rintro e w1 ⟨rfl, S1, U1⟩
  clear C S0 U0
  clear c0 c1 c2 z1 z2 k0 k1 k2 k3 k4 k5 k6 k7 f0 f1 f2 f3 f4 f5 f6 f7
  obtain ⟨⟨c0, c1, c2, z1, z2⟩, ⟨k0, k1, k2, k3, k4, k5, k6, k7⟩, ⟨f0, f1, f2, f3, f4, f5, f6, f7⟩⟩ := S1.cells
  have C := has_t S1 U1 [123] (by decide) (by decide)
  rw [Q0.out] at C
  go_wp2_with fail
  refine C.mono ?_
  rintro e w2 ⟨rfl, S2, U2⟩
  clear C S1 U1
  clear c0 c1 c2 z1 z2 k0 k1 k2 k3 k4 k5 k6 k7 f0 f1 f2 f3 f4 f5 f6 f7
  obtain ⟨⟨c0, c1, c2, z1, z2⟩, ⟨k0, k1, k2, k3, k4, k5, k6, k7⟩, ⟨f0, f1, f2, f3, f4, f5, f6, f7⟩⟩ := S2.cells
  have C := fail_t S2 U2 132 st
  go_wp2_with fail
  refine C.mono ?_
  rintro e w9 ⟨rfl, S9, U9⟩
  clear C
  go_wp2
  go_ret
  exact ⟨rfl, ⟨_, _, S9⟩, U9⟩
set_option maxHeartbeats 4000000 in
set_option maxRecDepth 100000 in
theorem rhex_end (rb tb : Nat) (neg : Bool) (ao : Option Addr) (n cap : Nat) (f : Nat → Int) (a k : Nat) (c p : Int) (st : Nat) (w : World) (h : RT w rb tb ao n cap f a k c p ⟨0, 0, 0, 0, [], neg, st, 0⟩) (hl : a = n) :
    Calls Tryz.prog 49 #[.pointer (some ⟨rb, 0, none⟩), .pointer (some ⟨tb, 0, none⟩)] w (REt w rb tb ao n cap f k c p st (.no 130 n)) := by
  have hz2 : n - a = 0 := by omega
  have hz3 : ((n - a : Nat) : Int) = 0 := by omega
  have hz4 : (((n - a : Nat) : Int) == 0) = true := by simp; omega
  clear hl
  have hne : ¬ tb = rb := h.ne
  have hne' : ¬ rb = tb := fun e => h.ne e.symm
  have hn := h.rs.nn
  have ha := h.rs.aa
  have hcc := h.rs.cc
  have hcm := h.rs.cm
  have S0 := h
  have U0 : T2 rb tb w w := lin.Turns.refl _ w
  clear h
  obtain ⟨⟨c0, c1, c2, z1, z2⟩, ⟨k0, k1, k2, k3, k4, k5, k6, k7⟩, ⟨f0, f1, f2, f3, f4, f5, f6, f7⟩⟩ := S0.cells
  go_enter Tryz.func49, Tryz.ntmps49
  have C := rest_t S0 U0
  go_wp2_with fail
  refine C.mono ?_
  rintro e w1 ⟨rfl, S1, U1⟩
  clear C S0 U0
  clear c0 c1 c2 z1 z2 k0 k1 k2 k3 k4 k5 k6 k7 f0 f1 f2 f3 f4 f5 f6 f7
  obtain ⟨⟨c0, c1, c2, z1, z2⟩, ⟨k0, k1, k2, k3, k4, k5, k6, k7⟩, ⟨f0, f1, f2, f3, f4, f5, f6, f7⟩⟩ := S1.cells
  have C := fail_t S1 U1 130 n
  go_wp2_with fail
  refine C.mono ?_
  rintro e w9 ⟨rfl, S9, U9⟩
  clear C
  go_wp2
  go_ret
  exact ⟨rfl, ⟨_, _, S9⟩, U9⟩
set_option maxHeartbeats 4000000 in
set_option maxRecDepth 100000 in
theorem rhex_no (rb tb : Nat) (neg : Bool) (ao : Option Addr) (n cap : Nat) (f : Nat → Int) (a k : Nat) (c p : Int) (st : Nat) (w : World) (h : RT w rb tb ao n cap f a k c p ⟨0, 0, 0, 0, [], neg, st, 0⟩) (hl : a < n) (q0 : hasB f n a [123] = false) :
    Calls Tryz.prog 49 #[.pointer (some ⟨rb, 0, none⟩), .pointer (some ⟨tb, 0, none⟩)] w (REt w rb tb ao n cap f k c p st (.no 132 st)) := by
  have Q0 : Hid (hasB f n a [123] = false) := q0
  clear q0
  have hz2 : 0 < n - a := by omega
  have hz3 : ¬ n - a = 0 := by omega
  have hz4 : (((n - a : Nat) : Int) == 0) = false := by simp; omega
  have hne : ¬ tb = rb := h.ne
  have hne' : ¬ rb = tb := fun e => h.ne e.symm
  have hn := h.rs.nn
  have ha := h.rs.aa
  have hcc := h.rs.cc
  have hcm := h.rs.cm
  have S0 := h
  have U0 : T2 rb tb w w := lin.Turns.refl _ w
  clear h
  obtain ⟨⟨c0, c1, c2, z1, z2⟩, ⟨k0, k1, k2, k3, k4, k5, k6, k7⟩, ⟨f0, f1, f2, f3, f4, f5, f6, f7⟩⟩ := S0.cells
  go_enter Tryz.func49, Tryz.ntmps49
  have C := rest_t S0 U0
  go_wp2_with fail
  refine C.mono ?_
  rintro e w1 ⟨rfl, S1, U1⟩
  clear C S0 U0
  clear c0 c1 c2 z1 z2 k0 k1 k2 k3 k4 k5 k6 k7 f0 f1 f2 f3 f4 f5 f6 f7
  obtain ⟨⟨c0, c1, c2, z1, z2⟩, ⟨k0, k1, k2, k3, k4, k5, k6, k7⟩, ⟨f0, f1, f2, f3, f4, f5, f6, f7⟩⟩ := S1.cells
  have C := has_t S1 U1 [123] (by decide) (by decide)
  rw [Q0.out] at C
  go_wp2_with fail
  refine C.mono ?_
  rintro e w2 ⟨rfl, S2, U2⟩
  clear C S1 U1
  clear c0 c1 c2 z1 z2 k0 k1 k2 k3 k4 k5 k6 k7 f0 f1 f2 f3 f4 f5 f6 f7
  obtain ⟨⟨c0, c1, c2, z1, z2⟩, ⟨k0, k1, k2, k3, k4, k5, k6, k7⟩, ⟨f0, f1, f2, f3, f4, f5, f6, f7⟩⟩ := S2.cells
  have C := fail_t S2 U2 132 st
  go_wp2_with fail
  refine C.mono ?_
  rintro e w9 ⟨rfl, S9, U9⟩
  clear C
  go_wp2
  go_ret
  exact ⟨rfl, ⟨_, _, S9⟩, U9⟩
set_option maxHeartbeats 4000000 in
set_option maxRecDepth 100000 in
theorem rprop_go (rb tb : Nat) (neg : Bool) (ao : Option Addr) (n cap : Nat) (f : Nat → Int) (a k : Nat) (c p : Int) (st : Nat) (w : World) (h : RT w rb tb ao n cap f a k c p ⟨0, 0, 0, 0, [], neg, st, 0⟩) (hst : noneC f st = 132) (hl : a < n) (q0 : hasB f n a [123] = true) :
    Calls Tryz.prog 48 #[.pointer (some ⟨rb, 0, none⟩), .pointer (some ⟨tb, 0, none⟩)] w (REt w rb tb ao n cap f k c p st (((exprR f n (n + 1 - (a + 1)) (a + 1)).bind fun _ e => meant f st (a + 1) e).bind fun s a => .ok (prop s neg) a)) := by
  have Q0 : Hid (hasB f n a [123] = true) := q0
  clear q0
  have hz2 : 0 < n - a := by omega
  have hz3 : ¬ n - a = 0 := by omega
  have hz4 : (((n - a : Nat) : Int) == 0) = false := by simp; omega
  obtain ⟨R, hR⟩ : ∃ R, (exprR f n (n + 1 - (a + 1)) (a + 1)).bind (fun _ e => meant f st (a + 1) e) = R := ⟨_, rfl⟩
  rw [hR]
  have HR : Hid (R = (exprR f n (n + 1 - (a + 1)) (a + 1)).bind (fun _ e => meant f st (a + 1) e)) := hR.symm
  have HST : Hid (noneC f st = 132) := hst
  have HF : Hid (∀ i, 0 ≤ f i ∧ f i ≤ 255) := h.rs.ff
  clear hR hst
  have hby := h.rs.byt
  have hne : ¬ tb = rb := h.ne
  have hne' : ¬ rb = tb := fun e => h.ne e.symm
  have hn := h.rs.nn
  have ha := h.rs.aa
  have hcc := h.rs.cc
  have hcm := h.rs.cm
  have S0 := h
  have U0 : T2 rb tb w w := lin.Turns.refl _ w
  clear h
  obtain ⟨⟨c0, c1, c2, z1, z2⟩, ⟨k0, k1, k2, k3, k4, k5, k6, k7⟩, ⟨f0, f1, f2, f3, f4, f5, f6, f7⟩⟩ := S0.cells
  go_enter Tryz.func48, Tryz.ntmps48
  obtain ⟨b, off, rfl, hbn, -⟩ := hby
  have C := rest_t S0 U0
  go_wp2_with fail
  refine C.mono ?_
  rintro e w1 ⟨rfl, S1, U1⟩
  clear C S0 U0
  clear c0 c1 c2 z1 z2 k0 k1 k2 k3 k4 k5 k6 k7 f0 f1 f2 f3 f4 f5 f6 f7
  obtain ⟨⟨c0, c1, c2, z1, z2⟩, ⟨k0, k1, k2, k3, k4, k5, k6, k7⟩, ⟨f0, f1, f2, f3, f4, f5, f6, f7⟩⟩ := S1.cells
  have C := has_t S1 U1 [123] (by decide) (by decide)
  rw [Q0.out] at C
  go_wp2_with fail
  refine C.mono ?_
  rintro e w2 ⟨rfl, S2, U2⟩
  clear C S1 U1
  clear c0 c1 c2 z1 z2 k0 k1 k2 k3 k4 k5 k6 k7 f0 f1 f2 f3 f4 f5 f6 f7
  obtain ⟨⟨c0, c1, c2, z1, z2⟩, ⟨k0, k1, k2, k3, k4, k5, k6, k7⟩, ⟨f0, f1, f2, f3, f4, f5, f6, f7⟩⟩ := S2.cells
  have S3 := S2.put1 (x := ((a : Nat) : Int) + 1) (a' := a + 1) (by omega) (by omega)
  have U3 := T2.at U2 1 (.int .i64 (((a : Nat) : Int) + 1))
  clear S2 U2
  have HS : Hid (RT (w2.setCell ⟨rb, 1, none⟩ (.int .i64 (((a : Nat) : Int) + 1))) rb tb (some ⟨b, off, none⟩) n cap f (a + 1) k c p ⟨0, 0, 0, 0, [], neg, st, 0⟩) := S3
  have HU : Hid (T2 rb tb w (w2.setCell ⟨rb, 1, none⟩ (.int .i64 (((a : Nat) : Int) + 1)))) := U3
  clear S3 U3
  go_wp2
  clear c0 c1 c2 z1 z2 k0 k1 k2 k3 k4 k5 k6 k7 f0 f1 f2 f3 f4 f5 f6 f7
  go_loopg [] (n - (a + 1)) (fun q wr => ∃ a1 : Nat, q = n - a1 ∧ a + 1 ≤ a1 ∧ a1 ≤ n ∧ Hid (R = (exprR f n (n + 1 - a1) a1).bind fun _ e => meant f st (a + 1) e) ∧ Hid (RT wr rb tb (some ⟨b, off, none⟩) n cap f a1 k c p ⟨0, 0, 0, 0, [], neg, st, 0⟩) ∧ Hid (T2 rb tb w wr))
  case atStart => exact ⟨a + 1, rfl, Nat.le_refl _, by omega, HR, HS, HU⟩
  case round =>
    obtain ⟨a1, hq, hba, han, HQ, HW, HT⟩ := hrel
    clear HR HS HU Q0 hz2 hz3 hz4
    have S0 := HW.out
    have U0 := HT.out
    clear HW HT
    by_cases hlt : a1 < n
    ·
      have hy2 : 0 < n - a1 := by omega
      have hy3 : ¬ n - a1 = 0 := by omega
      have hy5 : (0 : Int) < ((n - a1 : Nat) : Int) := by omega
      obtain ⟨⟨c0, c1, c2, z1, z2⟩, ⟨k0, k1, k2, k3, k4, k5, k6, k7⟩, ⟨f0, f1, f2, f3, f4, f5, f6, f7⟩⟩ := S0.cells
      have C := rest_lt S0 U0 hlt
      go_wp2_with fail
      refine C.mono ?_
      rintro e w1 ⟨gb1, go1, rfl, cx1, hg1, hh1, S1, U1⟩
      clear C S0 U0
      clear c0 c1 c2 z1 z2 k0 k1 k2 k3 k4 k5 k6 k7 f0 f1 f2 f3 f4 f5 f6 f7
      obtain ⟨⟨c0, c1, c2, z1, z2⟩, ⟨k0, k1, k2, k3, k4, k5, k6, k7⟩, ⟨f0, f1, f2, f3, f4, f5, f6, f7⟩⟩ := S1.cells
      have C := rest_lt S1 U1 hlt
      go_wp2_with fail
      refine C.mono ?_
      rintro e w2 ⟨gb2, go2, rfl, cx2, hg2, hh2, S2, U2⟩
      clear C S1 U1
      clear c0 c1 c2 z1 z2 k0 k1 k2 k3 k4 k5 k6 k7 f0 f1 f2 f3 f4 f5 f6 f7
      obtain ⟨⟨c0, c1, c2, z1, z2⟩, ⟨k0, k1, k2, k3, k4, k5, k6, k7⟩, ⟨f0, f1, f2, f3, f4, f5, f6, f7⟩⟩ := S2.cells
      by_cases hc : f a1 = 125
      ·
        rw [hc] at cx2
        have HQ2 : Hid (R = meant f st (a + 1) (a1 + 1)) := by unfold Hid; rw [HQ.out, exprR_end f n hlt hc, bind_ok]
        clear HQ hc
        have C := rest_t S2 U2
        go_wp2_with fail
        refine C.mono ?_
        rintro e w3 ⟨rfl, S3, U3⟩
        clear C S2 U2
        clear c0 c1 c2 z1 z2 k0 k1 k2 k3 k4 k5 k6 k7 f0 f1 f2 f3 f4 f5 f6 f7
        obtain ⟨⟨c0, c1, c2, z1, z2⟩, ⟨k0, k1, k2, k3, k4, k5, k6, k7⟩, ⟨f0, f1, f2, f3, f4, f5, f6, f7⟩⟩ := S3.cells
        have CV := S3.conv (a + 1) a1 (cap - (a + 1)) (by omega) (by omega)
        have hsz : (BA (bytes f (a + 1) a1)).size ≤ 2000 := by rw [lin.BA_size, bytes_len]; omega
        obtain ⟨X, hX⟩ : ∃ X, BA (bytes f (a + 1) a1) = X := ⟨_, rfl⟩
        have HM : Hid (R = if (nam.resolveV X).2.2 = 0 then .ok (canonL (nam.resolveV X)) (a1 + 1) else .no (nam.resolveV X).2.2 st) := by
          unfold Hid; rw [HQ2.out]; unfold meant; rw [show a1 + 1 - 1 = a1 by omega, hX]
        rw [hX] at CV hsz
        have HS2 : Hid (RT w3 rb tb (some ⟨b, off, none⟩) n cap f a1 k c p ⟨0, 0, 0, 0, [], neg, st, 0⟩) := S3
        have HU2 : Hid (T2 rb tb w w3) := U3
        have RS : Hid (∀ W, Below w3.heap.size w3 W → Calls Tryz.prog 86 #[.string X] W fun e w' => e = .returned (.tuple #[.string (BA (canV X).1), .int .i64 (canV X).2]) ∧ Below w3.heap.size w3 w' ∧ w'.cell? ⟨rb, 0, none⟩ = some (.slice (some ⟨b, off, none⟩) n cap) ∧ w'.cell? ⟨rb, 1, none⟩ = some (.int .i64 a1) ∧ (convert 22 9 (.slice (some ⟨b, off + (a + 1), none⟩) (a1 - (a + 1)) (cap - (a + 1)))).run Tryz.prog w' = .ok (.string X) w') := fun W hW => (canonical_any X W (by omega)).mono fun e w' H =>
          have q := hW.trans (H.2.mono hW.size)
          ⟨H.1, q, (HS2.out.below q).rs.cells.1, (HS2.out.below q).rs.cells.2.1, by rw [← hX]; exact (HS2.out.below q).conv (a + 1) a1 (cap - (a + 1)) (by omega) (by omega)⟩
        have CVD : (convert 22 9 (.slice (some ⟨b, off + (a + 1), none⟩) (a1 - (a + 1)) (cap - (a + 1)))).run Tryz.prog w3.drew = .ok (.string X) w3.drew := by rw [← hX]; exact (HS2.out.below ⟨rfl, rfl, rfl, Nat.le_refl _, fun _ _ => rfl⟩ : RT w3.drew rb tb _ n cap f a1 k c p _).conv (a + 1) a1 (cap - (a + 1)) (by omega) (by omega)
        clear HQ2 hX S3 U3
        have HCV : Hid (canV X = if (nam.resolveV X).2.2 = 0 then (canonL (nam.resolveV X), 0) else ([], (nam.resolveV X).2.2)) := rfl
        generalize canV X = CN at *
        obtain ⟨cs, ce⟩ := CN
        obtain ⟨aa, haa⟩ : ∃ aa, a + 1 = aa := ⟨_, rfl⟩
        rw [haa] at CV CVD RS hba
        have e1 : (a : Int) + 1 = (aa : Int) := by omega
        rw [e1]
        have l1 : (0 : Int) ≤ (aa : Int) := by omega
        have l2 : (aa : Int) ≤ (a1 : Int) := by omega
        have l3 : (a1 : Int) ≤ (cap : Int) := by omega
        have l4 : (aa : Int) < (cap : Int) := by omega
        have l5 : ¬ cap = aa := by omega
        have l6 : ¬ cap - aa = 0 := by omega
        have lB : ((a1 : Int) - (aa : Int)).toNat = a1 - aa := by omega
        clear e1 haa
        simp only [] at RS HCV
        go_wp2
        go_region_held3 (fun w' => w'.cell? ⟨rb, 0, none⟩ = some (.slice (some ⟨b, off, none⟩) n cap) ∧ w'.cell? ⟨rb, 1, none⟩ = some (.int .i64 a1) ∧ (convert 22 9 (.slice (some ⟨b, off + aa, none⟩) (a1 - aa) (cap - aa))).run Tryz.prog w' = .ok (.string X) w') (go_keep)
          (first | (go_at_call 86; refine (RS.out _ ?_).mono ?_; (rotate_left; rintro e w7 ⟨rfl, hb7, m0, m1, m2⟩; rotate_right; (repeat' first | exact Below.refl _ _ | assumption | refine below_drewN ?_ _ | refine Below.setCell ?_ (by simp) _ | refine Below.alloc ?_ (by simp) _))))
        have S7 := HS2.out.below hb7
        have U7 := lin.Turns.trans HU2.out (lin.Turns.of_below (D := fun q => q = rb ∨ q = tb) hb7)
        clear RS HS2 HU2 CV CVD m0 m1 m2 hb7
        clear c0 c1 c2 z1 z2 k0 k1 k2 k3 k4 k5 k6 k7 f0 f1 f2 f3 f4 f5 f6 f7
        obtain ⟨⟨c0, c1, c2, z1, z2⟩, ⟨k0, k1, k2, k3, k4, k5, k6, k7⟩, ⟨f0, f1, f2, f3, f4, f5, f6, f7⟩⟩ := S7.cells
        by_cases hv : (nam.resolveV X).2.2 = 0
        ·
          have HM2 := HM.out
          rw [if_pos hv] at HM2
          have HC2 := HCV.out
          rw [if_pos hv] at HC2
          obtain ⟨rfl, rfl⟩ := Prod.mk.inj HC2
          obtain rfl := HM2
          clear HM HCV hv HC2
          have S8 := S7.t0 8
          have U8 := T2.put U7 0 (.int .i64 8)
          clear S7 U7
          have S9 := S8.t4 (canonL (nam.resolveV X))
          have U9 := T2.put U8 4 (.string (BA (canonL (nam.resolveV X))))
          clear S8 U8
          have S10 := S9.put1 (x := ((a1 : Nat) : Int) + 1) (a' := a1 + 1) (by omega) (by omega)
          have U10 := T2.at U9 1 (.int .i64 (((a1 : Nat) : Int) + 1))
          clear S9 U9
          go_wp2
          go_ret
          exact ⟨rfl, S10, U10⟩
        ·
          have HM2 := HM.out
          rw [if_neg hv] at HM2
          have HC2 := HCV.out
          rw [if_neg hv] at HC2
          obtain ⟨rfl, rfl⟩ := Prod.mk.inj HC2
          obtain rfl := HM2
          clear HM HCV HC2
          have m1 : ((nam.resolveV X).2.2 == 0) = false := by simp [hv]
          have m2 : ((nam.resolveV X).2.2 != 0) = true := by simp [hv]
          have C := fail_t S7 U7 (nam.resolveV X).2.2 st
          go_wp2_with fail
          refine C.mono ?_
          rintro e w9 ⟨rfl, S9, U9⟩
          clear C
          go_wp2
          go_ret
          exact ⟨rfl, ⟨_, _, S9⟩, U9⟩
      ·
        have m125 : (f a1 != 125) = true := by simp [hc]
        have m125b : (f a1 == 125) = false := by simp [hc]
        have HQ2 : Hid (R = ((point f n a1).bind fun r a' => exprR f n (n + 1 - a') a').bind fun _ e => meant f st (a + 1) e) := by unfold Hid; rw [HQ.out, exprR_go f n HF.out hlt hc]
        generalize hfa : f a1 = x at *
        clear HQ hc hfa
        have C := char_t S2 U2 hlt
        go_wp2_with fail
        refine C.mono ?_
        rintro e w3 (⟨r, a2, hp, rfl, S3, U3⟩ | ⟨cc1, pp1, a2, hp, rfl, S3, U3⟩)
        ·
          clear C S2 U2
          clear c0 c1 c2 z1 z2 k0 k1 k2 k3 k4 k5 k6 k7 f0 f1 f2 f3 f4 f5 f6 f7
          have hv := point_val hp
          have HQ3 : Hid (R = (exprR f n (n + 1 - a2) a2).bind fun _ e => meant f st (a + 1) e) := by unfold Hid; rw [HQ2.out, hp, bind_ok]
          clear HQ2 hp
          unfold cv
          have hgm : n - a2 < gk := by omega
          go_wp2
          go_roundg (n - a2)
          case measure => omega
          case rel => exact ⟨a2, rfl, by omega, by omega, HQ3, S3, U3⟩
        ·
          clear C S2 U2
          clear c0 c1 c2 z1 z2 k0 k1 k2 k3 k4 k5 k6 k7 f0 f1 f2 f3 f4 f5 f6 f7
          obtain rfl : R = .no cc1 pp1 := by rw [HQ2.out, hp, bind_no, bind_no]
          clear HQ2 hp
          go_wp2
          go_ret
          exact ⟨rfl, ⟨_, _, S3⟩, U3⟩
    ·
      obtain rfl : a1 = n := by omega
      obtain rfl : R = .no 130 a1 := by rw [HQ.out, exprR_out f a1 (Nat.le_refl _), bind_no]
      have hy2 : a1 - a1 = 0 := by omega
      have hy3 : ((a1 - a1 : Nat) : Int) = 0 := by omega
      clear HQ
      obtain ⟨⟨c0, c1, c2, z1, z2⟩, ⟨k0, k1, k2, k3, k4, k5, k6, k7⟩, ⟨f0, f1, f2, f3, f4, f5, f6, f7⟩⟩ := S0.cells
      have C := rest_t S0 U0
      go_wp2_with fail
      refine C.mono ?_
      rintro e w1 ⟨rfl, S1, U1⟩
      clear C S0 U0
      clear c0 c1 c2 z1 z2 k0 k1 k2 k3 k4 k5 k6 k7 f0 f1 f2 f3 f4 f5 f6 f7
      obtain ⟨⟨c0, c1, c2, z1, z2⟩, ⟨k0, k1, k2, k3, k4, k5, k6, k7⟩, ⟨f0, f1, f2, f3, f4, f5, f6, f7⟩⟩ := S1.cells
      have C := rest_t S1 U1
      go_wp2_with fail
      refine C.mono ?_
      rintro e w2 ⟨rfl, S2, U2⟩
      clear C S1 U1
      clear c0 c1 c2 z1 z2 k0 k1 k2 k3 k4 k5 k6 k7 f0 f1 f2 f3 f4 f5 f6 f7
      obtain ⟨⟨c0, c1, c2, z1, z2⟩, ⟨k0, k1, k2, k3, k4, k5, k6, k7⟩, ⟨f0, f1, f2, f3, f4, f5, f6, f7⟩⟩ := S2.cells
      have C := fail_t S2 U2 130 a1
      go_wp2_with fail
      refine C.mono ?_
      rintro e w9 ⟨rfl, S9, U9⟩
      clear C
      go_wp2
      go_ret
      exact ⟨rfl, ⟨_, _, S9⟩, U9⟩
set_option maxHeartbeats 4000000 in
set_option maxRecDepth 100000 in
theorem rprop (rb tb : Nat) (neg : Bool) (ao : Option Addr) (n cap : Nat) (f : Nat → Int) (a k : Nat) (c p : Int) (st : Nat) (w : World) (h : RT w rb tb ao n cap f a k c p ⟨0, 0, 0, 0, [], neg, st, 0⟩) (hst : noneC f st = 132) :
    Calls Tryz.prog 48 #[.pointer (some ⟨rb, 0, none⟩), .pointer (some ⟨tb, 0, none⟩)] w (REt w rb tb ao n cap f k c p st ((expr f n st a).bind fun s a => .ok (prop s neg) a)) := by
  have ha := h.rs.aa
  unfold expr
  by_cases hl : a < n
  · by_cases hc : f a = 123
    · rw [want_lt f n hl hc, bind_ok]
      exact rprop_go rb tb neg ao n cap f a k c p st w h hst hl (by rw [has_1]; exact at_t hl hc)
    · rw [want_no f n hl hc]
      unfold nope
      rw [bind_no, bind_no, hst]
      exact rprop_no rb tb neg ao n cap f a k c p st w h hl (by rw [has_1]; exact at_f hc)
  · rw [want_ge f n hl, bind_no, bind_no]
    exact rprop_end rb tb neg ao n cap f a k c p st w h (by omega)
end Go.Proofs.YtlgkfnecahgedaaGreatDoor.tok
end

section
/- A code point in digits, as the document reads it: plain mathematics. -/
set_option linter.unusedVariables false
set_option linter.unusedSimpArgs false
namespace Go.Proofs.YtlgkfnecahgedaaGreatDoor.tok
open lin (BA)
open utf (len)

section
variable (f : Nat → Int) (n : Nat)
/-- The document's way: all digits first. -/
def hexO (st b D : Nat) : Out Tk := if n ≤ b + D then .no 130 n else if D = 0 ∨ ¬ f (b + D) = 125 ∨ len (valD 16 f D b 0) = 0 then nope f st else .ok (char (valD 16 f D b 0)) (b + D + 1)
theorem hex_ref (st b : Nat) (hb : b ≤ n) : ((number f n st 16 6 b).bind fun q a => if len q.1 ≠ 0 ∧ q.2 = 125 then .ok (char q.1) a else nope f st) = hexO f n st b (cntD hexB f n 6 b) := by
  unfold number hexO
  rw [numR_cnt hexB 16 hex_dg f n st 6 0 true b hb]
  generalize cntD hexB f n 6 b = D
  by_cases h1 : n ≤ b + D
  · rw [if_pos h1, if_pos h1, bind_no]
  · rw [if_neg h1, if_neg h1]
    by_cases h2 : D = 0 ∧ true = true ∨ hexB (f (b + D)) = true
    · rw [if_pos h2]
      unfold nope
      rw [bind_no, if_pos]
      rcases h2 with h2 | h2
      · exact .inl h2.1
      · refine .inr (.inl fun e => ?_)
        rw [e] at h2
        exact absurd h2 (by decide)
    · rw [if_neg h2, bind_ok]
      have hD : ¬ D = 0 := fun e => h2 (.inl ⟨e, rfl⟩)
      by_cases h3 : len (valD 16 f D b 0) ≠ 0 ∧ f (b + D) = 125
      · rw [if_pos h3, if_neg]
        rintro (h | h | h)
        · exact hD h
        · exact h h3.2
        · exact h3.1 h
      · rw [if_neg h3, if_pos]
        by_cases h4 : f (b + D) = 125
        · exact .inr (.inr (Classical.byContradiction fun h5 => h3 ⟨h5, h4⟩))
        · exact .inr (.inl h4)
theorem valX_small (hf : ∀ i, 0 ≤ f i ∧ f i ≤ 255) : ∀ m a, (∀ j, j < m → hexB (f (a + j)) = true) → m ≤ 6 → 0 ≤ valD 16 f m a 0 ∧ valD 16 f m a 0 + 1 ≤ 16 ^ m := by
  intro m
  induction m with
  | zero => intro a _ _; simp [valD]
  | succ m ih =>
    intro a hd hm
    have h1 := ih a (fun j hj => hd j (by omega)) (by omega)
    have h2 := dg_small (f (a + m)) 16 (hf _).1 (by rw [hex_dg]; exact hd m (by omega)) (.inr rfl)
    rw [valD_snoc, Int.pow_succ]
    omega
theorem hex_val (c : Int) (h : hexB c = true) : (digitB c = true ∧ dgV c 16 = c - 48) ∨ (digitB c = false ∧ 97 ≤ c ∧ c ≤ 102 ∧ dgV c 16 = c - 97 + 10) ∨ (digitB c = false ∧ c < 97 ∧ 65 ≤ c ∧ c ≤ 70 ∧ dgV c 16 = c - 65 + 10) := by
  unfold hexB digitB at h
  simp only [Bool.or_eq_true, Bool.and_eq_true, decide_eq_true_eq] at h
  unfold digitB dgV
  rcases h with (h | h) | h
  · left; refine ⟨by simp; omega, by rw [if_pos h]⟩
  · right; left; refine ⟨by simp; omega, by omega, by omega, by rw [if_neg (by omega), if_pos h]⟩
  · right; right; refine ⟨by simp; omega, by omega, by omega, by omega, by rw [if_neg (by omega), if_neg (by omega), if_pos h]⟩
theorem len_zero (r : Int) (h : 0 ≤ r) : len r = 0 ↔ 1114111 < r ∨ (55296 ≤ r ∧ r ≤ 57343) := by
  unfold len
  (repeat' split) <;> omega
end
end Go.Proofs.YtlgkfnecahgedaaGreatDoor.tok
end
